/- Texts joined: RfD RfE -/
import Derived.Test.YtmfgjicfdjjihaaGreatDoorLxa24
namespace Go.Proofs.YtmfgjicfdjjihaaGreatDoor
open Go.RowKit
set_option linter.unusedVariables false
set_option linter.unusedSimpArgs false
theorem OwnI.tc {T : TypeId → Bool} {w w' : World} {B : Nat} {a : Option Addr} {c : Nat} {l : List Nat} (h : OwnI w B a c l) (hb : Tc T w w') (ht : T 3 = false) : OwnI w' B a c l := ownsRow_tc h hb ht
theorem OwnU.tc {T : TypeId → Bool} {w w' : World} {B : Nat} {a : Option Addr} {c : Nat} {l : List Nat} (h : OwnU w B a c l) (hb : Tc T w w') (ht : T 99 = false) : OwnU w' B a c l := ownsRow_tc h hb ht
/-- As far as q of a cross. -/
def preX (A B : List (List Nat)) (q : Nat) : List (List Nat) := (crossL A B).take q
theorem preX_len {A B : List (List Nat)} (q : Nat) (h : A.length * B.length ≤ 4096) : (classL (preX A B q)).length ≤ 4096 ∧ (setsL (preX A B q)).length ≤ 4096 := by
 have h1 : (preX A B q).length ≤ A.length * B.length := by unfold preX; rw [List.length_take, cross_len]; omega
 have h2 : (setsL (preX A B q)).length ≤ (preX A B q).length := sets_len _
 rw [class_len]
 omega
theorem preX_rs {A B : List (List Nat)} (hA : Rs2 A) (hB : Rs2 B) (q : Nat) : Rs2 (setsL (preX A B q)) := sets_rs fun s hs => cross_rs hA hB s (List.mem_of_mem_take hs)
theorem preX_step {A B : List (List Nat)} {i k : Nat} {s t : List Nat} (h : A[i]? = some s) (ht : B[k]? = some t) : preX A B (i * B.length + (k + 1)) = preX A B (i * B.length + k) ++ [bothL s t] := cross_take h ht
theorem preX_all (A B : List (List Nat)) : preX A B (A.length * B.length) = crossL A B := List.take_of_length_le (by rw [cross_len]; exact Nat.le_refl _)
set_option maxRecDepth 100000 in
set_option maxHeartbeats 8000000 in
theorem meet_any (a b : Option Addr) (ca cb : Nat) (A B : List (List Nat)) (w : World) (ha : RowU w a (A.map bitsN)) (hb : RowU w b (B.map bitsN)) (hA : Rs2 A) (hB : Rs2 B) (hn : A.length * B.length ≤ 4096) :
  Calls Tryz.prog 37 #[.slice a A.length ca, .slice b B.length cb] w fun e w' => ∃ ka kc ua uc, e = .returned (.tuple #[.slice ka (classL (crossL A B)).length kc, .slice ua (setsL (crossL A B)).length uc]) ∧ OwnI w' w.heap.size ka kc (classL (crossL A B)) ∧ OwnU w' w.heap.size ua uc ((setsL (crossL A B)).map bitsN) ∧ Below w.heap.size w w' := by
 have HRA : Hid (RowU w a (A.map bitsN)) := ha
 have HRB : Hid (RowU w b (B.map bitsN)) := hb
 have HA : Hid (Rs2 A) := hA
 have HB : Hid (Rs2 B) := hB
 have hsa := ha.small
 have hsb := hb.small
 rw [List.length_map] at hsa hsb
 have HPL : Hid (∀ q, (classL (preX A B q)).length ≤ 4096 ∧ (setsL (preX A B q)).length ≤ 4096) := fun q => preX_len q hn
 have HPR : Hid (∀ q, Rs2 (setsL (preX A B q))) := fun q => preX_rs hA hB q
 have HPA : Hid (preX A B (A.length * B.length) = crossL A B) := preX_all A B
 have HST : Hid (∀ (i k : Nat) (s t : List Nat), A[i]? = some s → B[k]? = some t → preX A B (i * B.length + (k + 1)) = preX A B (i * B.length + k) ++ [bothL s t]) := fun i k s t h h' => preX_step h h'
 obtain ⟨N, hN⟩ : ∃ N, A.length = N := ⟨_, rfl⟩
 obtain ⟨M, hM⟩ : ∃ M, B.length = M := ⟨_, rfl⟩
 have HN : Hid (A.length = N) := hN
 have HM : Hid (B.length = M) := hM
 rw [hN, hM] at HPA ⊢
 rw [hM] at HST hsb
 rw [hN] at hsa
 obtain ⟨K0, hK0⟩ : ∃ K0, classL (crossL A B) = K0 := ⟨_, rfl⟩
 obtain ⟨S0, hS0⟩ : ∃ S0, setsL (crossL A B) = S0 := ⟨_, rfl⟩
 have HK0 : Hid (classL (crossL A B) = K0) := hK0
 have HS0 : Hid (setsL (crossL A B) = S0) := hS0
 rw [hK0, hS0]
 clear ha hb hA hB hN hM hn hK0 hS0
 go_enter Tryz.func37, Tryz.ntmps37
 go_wp2_with fail
 go_loopw [6, 7, 15] (fun v6 v7 i wr => ∃ (n : Nat) (ka : Option Addr) (kc : Nat) (ua : Option Addr) (uc : Nat), n ≤ N ∧ i = .int .i64 n ∧ v6 = .slice ka (classL (preX A B (n * M))).length kc ∧ v7 = .slice ua (setsL (preX A B (n * M))).length uc ∧ Hid (OwnI wr w.heap.size ka kc (classL (preX A B (n * M)))) ∧ Hid (OwnU wr w.heap.size ua uc ((setsL (preX A B (n * M))).map bitsN)) ∧ Below w.heap.size w wr) (fun _ _ i _ => N - (intOf i).toNat)
 case atStart => exact ⟨0, none, 0, none, 0, Nat.zero_le _, rfl, by simp [preX, classL, classF], by simp [preX, setsL], by simp only [Nat.zero_mul]; exact OwnI.nil _ _, by simp only [Nat.zero_mul]; exact OwnU.nil _ _, Below.refl _ _⟩
 case round =>
  obtain ⟨n, ka, kc, ua, uc, hn, rfl, rfl, rfl, HOI, HOU, bw⟩ := hrel
  by_cases hlt : n < N
  ·have ik : (n : Int) < (N : Int) := by omega
   have hw1 : IntKind.i64.wrap ((n : Int) + 1) = ((n + 1 : Nat) : Int) := by simp [IntKind.wrap, IntKind.bits, IntKind.signed]; omega
   obtain ⟨s, hs⟩ : ∃ s, A[n]? = some s := ⟨_, List.getElem?_eq_getElem (by rw [HN.out]; exact hlt)⟩
   have HSN : Hid (A[n]? = some s) := hs
   have HSR : Hid (Rs s) := HA.out s (List.mem_of_getElem? hs)
   obtain ⟨ba, oa, ea, hca⟩ := HRA.out.cells (by rw [List.length_map, HN.out]; omega)
   have hca := kept bw (hca n (by rw [List.length_map, HN.out]; exact hlt))
   rw [List.getD_eq_getElem?_getD, List.getElem?_map, hs] at hca
   simp only [Option.map_some, Option.getD_some] at hca
   subst ea
   obtain ⟨X, hX⟩ : ∃ X, bitsN s = X := ⟨_, rfl⟩
   have HX : Hid (bitsN s = X) := hX
   rw [hX] at hca
   clear hs hX
   go_wp2_with fail
   clear hca
   go_loopw [6, 7, 21] (fun v6 v7 i wr => ∃ (k : Nat) (ka : Option Addr) (kc : Nat) (ua : Option Addr) (uc : Nat), k ≤ M ∧ i = .int .i64 k ∧ v6 = .slice ka (classL (preX A B (n * M + k))).length kc ∧ v7 = .slice ua (setsL (preX A B (n * M + k))).length uc ∧ Hid (OwnI wr w.heap.size ka kc (classL (preX A B (n * M + k)))) ∧ Hid (OwnU wr w.heap.size ua uc ((setsL (preX A B (n * M + k))).map bitsN)) ∧ Below w.heap.size w wr) (fun _ _ i _ => M - (intOf i).toNat)
   case atStart => exact ⟨0, ka, kc, ua, uc, Nat.zero_le _, rfl, rfl, rfl, HOI, HOU, bw⟩
   case round =>
    clear HOI HOU bw
    obtain ⟨k, ka, kc, ua, uc, hk, rfl, rfl, rfl, HOI, HOU, bw⟩ := hrel
    by_cases hkt : k < M
    ·have jk : (k : Int) < (M : Int) := by omega
     have hw2 : IntKind.i64.wrap ((k : Int) + 1) = ((k + 1 : Nat) : Int) := by simp [IntKind.wrap, IntKind.bits, IntKind.signed]; omega
     obtain ⟨t, ht⟩ : ∃ t, B[k]? = some t := ⟨_, List.getElem?_eq_getElem (by rw [HM.out]; exact hkt)⟩
     have HTR : Hid (Rs t) := HB.out t (List.mem_of_getElem? ht)
     obtain ⟨bb, ob, eb, hcb⟩ := HRB.out.cells (by rw [List.length_map, HM.out]; omega)
     have hcb := kept bw (hcb k (by rw [List.length_map, HM.out]; exact hkt))
     rw [List.getD_eq_getElem?_getD, List.getElem?_map, ht] at hcb
     simp only [Option.map_some, Option.getD_some] at hcb
     subst eb
     have hst := HST.out n k s t HSN.out ht
     obtain ⟨Y, hY⟩ : ∃ Y, bitsN t = Y := ⟨_, rfl⟩
     obtain ⟨u, hu⟩ : ∃ u, bothL s t = u := ⟨_, rfl⟩
     obtain ⟨Z, hZ⟩ : ∃ Z, bitsN u = Z := ⟨_, rfl⟩
     have HUR : Hid (Rs u) := by rw [← hu]; exact both_rs HSR.out HTR.out
     have hand : bits BinOp.and IntKind.u64 (X : Int) (Y : Int) = (Z : Int) := by
      rw [← HX.out, ← hY, bits_and_u64_nat _ _ (bits_lt HSR.out.2) (bits_lt HTR.out.2), bits_and HSR.out HTR.out, hu, hZ]
     rw [hY] at hcb
     rw [hu] at hst
     obtain ⟨L, hL⟩ : ∃ L, preX A B (n * M + k) = L := ⟨_, rfl⟩
     have hpl := HPL.out (n * M + k)
     have hpr := HPR.out (n * M + k)
     rw [hL] at HOI HOU hst hpl hpr ⊢
     have hcl : classL (preX A B (n * M + (k + 1))) = classL L ++ [putN (setsL L) u] := by rw [hst, class_snoc]
     have hss : setsL (preX A B (n * M + (k + 1))) = putS (setsL L) u := by rw [hst, sets_snoc]
     obtain ⟨K, hK⟩ : ∃ K, classL L = K := ⟨_, rfl⟩
     obtain ⟨S, hS⟩ : ∃ S, setsL L = S := ⟨_, rfl⟩
     rw [hK] at HOI hcl hpl ⊢
     rw [hS] at HOU hcl hss hpl hpr ⊢
     have HCL : Hid (classL (preX A B (n * M + (k + 1))) = K ++ [putN S u]) := hcl
     have HSS : Hid (setsL (preX A B (n * M + (k + 1))) = putS S u) := hss
     have HSL : Hid (S.length ≤ 4096) := hpl.2
     have HKL : Hid (K.length ≤ 4096) := hpl.1
     have HRS : Hid (Rs2 S) := hpr
     have HZ : Hid (bitsN u = Z) := hZ
     have hbf : (S.map bitsN).findIdx? (· == Z) = S.findIdx? (· == u) := by rw [← hZ]; exact bits_find hpr HUR.out
     have hrow : RowU wr ua (S.map bitsN) := HOU.out.row (by rw [List.length_map]; omega)
     obtain ⟨q, hq⟩ : ∃ q, S.length = q := ⟨_, rfl⟩
     have HQ : Hid (S.length = q) := hq
     obtain ⟨p, hp⟩ : ∃ p, K.length = p := ⟨_, rfl⟩
     have HP' : Hid (K.length = p) := hp
     cases hf : S.findIdx? (· == u) with
     | some j =>
      obtain ⟨e1, e2⟩ := put_some hf
      have KI : Hid (Calls Tryz.prog 67 #[.slice ua S.length uc, .int .u64 (Z : Int)] wr fun e w' => e = .returned (.int .i64 (j : Int)) ∧ Below wr.heap.size wr w') := by
       have := indexU_any ua uc (S.map bitsN) Z wr hrow
       rw [List.length_map, hbf, hf] at this
       exact this
      have hj0 : decide ((j : Int) < 0) = false := by simp
      rw [hq] at KI ⊢
      rw [hp]
      have HE1 : Hid (putN S u = j) := e1
      have HE2 : Hid (putS S u = S) := e2
      clear hf e1 e2 hbf hrow hq hp hcl hss hst hL hK hS hpl hpr hY hu hZ ht
      go_wp2_with fail
      refine Calls.mono KI.out ?_
      rintro e W2 ⟨rfl, b2⟩
      replace bw := bel_tr bw b2
      replace HOI : Hid (OwnI W2 w.heap.size ka kc K) := HOI.out.below b2
      replace HOU : Hid (OwnU W2 w.heap.size ua uc (S.map bitsN)) := HOU.out.below b2
      clear b2
      obtain ⟨W3, hW3⟩ : ∃ W3, W2.alloc (.cells #[.int .i64 (j : Int)] 3) = W3 := ⟨_, rfl⟩
      have b3 := bel_nw hW3
      have bw3 := bel_tr bw b3
      obtain ⟨g, c', W4, hrun, ho, hg, hat, hb⟩ := run_appI1 W3 24 w.heap.size ka kc K (HOI.out.below b3) W2.heap.size 1 j 3 (blk_nw hW3) (by have := HKL.out; omega) bw3.size
      have HO4 : Hid (OwnI W4 w.heap.size (some ⟨g, 0, none⟩) c' (K ++ [putN S u])) := by rw [HE1.out]; exact ho
      have HU4 : Hid (OwnU W4 w.heap.size ua uc ((putS S u).map bitsN)) := by rw [HE2.out]; exact (HOU.out.below b3).tc (Tc.of_own (T := (· == 3)) hg (HOI.out.below b3) (by rfl)) (by rfl)
      have bw4 : Below w.heap.size w W4 := bw3.trans hb
      rw [HP'.out] at hrun
      have HR : Hid _ := hrun
      clear ho hg hat hb hrun bw3 b3 KI HOI HOU bw
      go_wp2_with (refine wpList_rn rfl 24 _ _ rfl _ _ rfl rfl _ _ HR.out ?_)
      refine ⟨⟨k + 1, some ⟨g, 0, none⟩, c', ua, uc, by omega, by first | rfl | (congr 1), ?_, ?_, ?_, ?_, bw4⟩, by simp only [intOf]; omega⟩
      ·rw [HCL.out, List.length_append, HP'.out]; rfl
      ·rw [HSS.out, HE2.out, HQ.out]
      ·rw [HCL.out]; exact HO4
      ·rw [HSS.out]; exact HU4
     | none =>
      obtain ⟨e1, e2⟩ := put_none hf
      have KI : Hid (Calls Tryz.prog 67 #[.slice ua S.length uc, .int .u64 (Z : Int)] wr fun e w' => e = .returned (.int .i64 (-1)) ∧ Below wr.heap.size wr w') := by
       have := indexU_any ua uc (S.map bitsN) Z wr hrow
       rw [List.length_map, hbf, hf] at this
       exact this
      rw [hq] at KI e1 ⊢
      rw [hp]
      have HE1 : Hid (putN S u = q) := e1
      have HE2 : Hid (putS S u = S ++ [u]) := e2
      have HQL : Hid (q ≤ 4096) := by have := HSL.out; rw [hq] at this; exact this
      clear hf e1 e2 hbf hrow hq hp hcl hss hst hL hK hS hpl hpr hY hu hZ ht
      go_wp2_with fail
      refine Calls.mono KI.out ?_
      rintro e W2 ⟨rfl, b2⟩
      replace bw := bel_tr bw b2
      replace HOI : Hid (OwnI W2 w.heap.size ka kc K) := HOI.out.below b2
      replace HOU : Hid (OwnU W2 w.heap.size ua uc (S.map bitsN)) := HOU.out.below b2
      clear b2
      obtain ⟨W3, hW3⟩ : ∃ W3, W2.alloc (.cells #[.int .u64 (Z : Int)] 99) = W3 := ⟨_, rfl⟩
      have b3 := bel_nw hW3
      have bw3 := bel_tr bw b3
      obtain ⟨g, c', W4, hrun, ho, hg, hat, hb⟩ := run_appU1 W3 93 w.heap.size ua uc (S.map bitsN) (HOU.out.below b3) W2.heap.size 1 Z 99 (blk_nw hW3) (by have := HSL.out; rw [List.length_map]; omega) bw3.size
      have HU4 : Hid (OwnU W4 w.heap.size (some ⟨g, 0, none⟩) c' ((putS S u).map bitsN)) := by rw [HE2.out, List.map_append, List.map_cons, List.map_nil, HZ.out]; exact ho
      have HI4 : Hid (OwnI W4 w.heap.size ka kc K) := (HOI.out.below b3).tc (Tc.of_own (T := (· == 99)) hg (HOU.out.below b3) (by rfl)) (by rfl)
      have bw4 : Below w.heap.size w W4 := bw3.trans hb
      rw [List.length_map, HQ.out] at hrun
      have HR : Hid _ := hrun
      obtain ⟨W5, hW5⟩ : ∃ W5, W4.alloc (.cells #[.int .i64 (q : Int)] 3) = W5 := ⟨_, rfl⟩
      have b5 := bel_nw hW5
      have bw5 := bel_tr bw4 b5
      obtain ⟨g', c'', W6, hrun', ho', hg', hat', hb'⟩ := run_appI1 W5 24 w.heap.size ka kc K (HI4.out.below b5) W4.heap.size 1 q 3 (blk_nw hW5) (by have := HKL.out; omega) bw5.size
      have HO6 : Hid (OwnI W6 w.heap.size (some ⟨g', 0, none⟩) c'' (K ++ [putN S u])) := by rw [HE1.out]; exact ho'
      have HU6 : Hid (OwnU W6 w.heap.size (some ⟨g, 0, none⟩) c' ((putS S u).map bitsN)) := (HU4.out.below b5).tc (Tc.of_own (T := (· == 3)) hg' (HI4.out.below b5) (by rfl)) (by rfl)
      have bw6 : Below w.heap.size w W6 := bw5.trans hb'
      rw [HP'.out] at hrun'
      have HR' : Hid _ := hrun'
      clear ho hg hat hb hrun ho' hg' hat' hb' hrun' bw3 b3 KI HOI HOU bw bw4 bw5 b5
      go_wp2_with (first
       | (refine wpList_rn rfl 93 _ _ rfl _ _ rfl rfl _ _ HR.out ?_)
       | (refine wpList_rn rfl 24 _ _ rfl _ _ rfl rfl _ _ HR'.out ?_))
      refine ⟨⟨k + 1, some ⟨g', 0, none⟩, c'', some ⟨g, 0, none⟩, c', by omega, by first | rfl | (congr 1), ?_, ?_, ?_, ?_, bw6⟩, by simp only [intOf]; omega⟩
      ·rw [HCL.out, List.length_append, HP'.out]; rfl
      ·rw [HSS.out, HE2.out, List.length_append, HQ.out]; rfl
      ·rw [HCL.out]; exact HO6
      ·rw [HSS.out]; exact HU6
    ·have jk : ¬ (k : Int) < (M : Int) := by omega
     have hk' : k = M := by omega
     have e : n * M + k = (n + 1) * M := by rw [hk', Nat.add_mul]; omega
     rw [e] at HOI HOU ⊢
     clear hk' e
     go_wp2
     exact ⟨⟨n + 1, ka, kc, ua, uc, by omega, by first | rfl | (congr 1), rfl, rfl, HOI, HOU, bw⟩, by simp only [intOf]; omega⟩
  ·have ik : ¬ (n : Int) < (N : Int) := by omega
   have hn' : n = N := by omega
   subst hn'
   rw [HPA.out, HK0.out] at HOI
   rw [HPA.out, HS0.out] at HOU
   rw [HPA.out, HK0.out, HS0.out]
   go_wp2
   exact bodyPost_ret (results_tmp2 Tryz.results37 _ _ _) rfl ⟨ka, kc, ua, uc, rfl, HOI.out, HOU.out, bw⟩
/-- A cut, as it is read. -/
structure ChR where
 a1 : Option Addr
 c1 : Nat
 a2 : Option Addr
 c2 : Nat
 a3 : Option Addr
 c3 : Nat
 L : List Pt
 K : List Int
 S : List (List Int)
def ChR.v (x : ChR) : Array Value := #[.slice x.a1 x.L.length x.c1, .slice x.a2 x.K.length x.c2, .slice x.a3 x.S.length x.c3]
structure ChR.ok (w : World) (x : ChR) : Prop where
 small : x.L.length ≤ 17592186044416
 p : RowP w x.a1 x.L
 i : RowI w x.a2 x.K
 s : RowS w x.a3 x.S
theorem ChR.ok.low {w w' : World} {x : ChR} (h : ChR.ok w x) (hb : Below w.heap.size w w') : ChR.ok w' x := ⟨h.small, h.p.low hb, h.i.below hb, h.s.below hb⟩
abbrev RowD (w : World) (a : Option Addr) (l : List ChR) : Prop := RowN 3 ChR.v ChR.ok w a l
theorem RowD.low {w w' : World} {a : Option Addr} {l : List ChR} (h : RowD w a l) (hb : Below w.heap.size w w') : RowD w' a l := RowN.below (ok := ChR.ok) (fun {_ _ _} h b => h.low b) h hb
/-- A cross, as it is read. -/
structure CrR where
 wd : Int
 a2 : Option Addr
 c2 : Nat
 a3 : Option Addr
 c3 : Nat
 K : List Int
 S : List (List Int)
def CrR.v (x : CrR) : Array Value := #[.int .i64 x.wd, .slice x.a2 x.K.length x.c2, .slice x.a3 x.S.length x.c3]
structure CrR.ok (w : World) (x : CrR) : Prop where
 i : RowI w x.a2 x.K
 s : RowS w x.a3 x.S
theorem CrR.ok.low {w w' : World} {x : CrR} (h : CrR.ok w x) (hb : Below w.heap.size w w') : CrR.ok w' x := ⟨h.i.below hb, h.s.below hb⟩
abbrev RowX (w : World) (a : Option Addr) (l : List CrR) : Prop := RowN 3 CrR.v CrR.ok w a l
theorem RowX.low {w w' : World} {a : Option Addr} {l : List CrR} (h : RowX w a l) (hb : Below w.heap.size w w') : RowX w' a l := RowN.below (ok := CrR.ok) (fun {_ _ _} h b => h.low b) h hb
/-- A sum, as it is added up. -/
def wsum (l : List Nat) : Int := l.foldl (fun (n : Int) (k : Nat) => wrap64 (n + (k : Int))) 0
theorem wsum_snoc (l : List Nat) (k : Nat) : wsum (l ++ [k]) = wrap64 (wsum l + (k : Int)) := by unfold wsum; rw [List.foldl_append]; rfl
theorem take_map_snoc {α : Type} (f : α → Nat) {l : List α} {n : Nat} {x : α} (h : l[n]? = some x) : (l.take (n + 1)).map f = (l.take n).map f ++ [f x] := by
 rw [List.take_add_one, h, List.map_append]; rfl
theorem info_chR (x : ChR) : (Tryz.prog.info? 63).map (·.size) = some x.v.size := by
 show _ = some 3
 kernel_rfl
theorem info_crR (x : CrR) : (Tryz.prog.info? 60).map (·.size) = some x.v.size := by
 show _ = some 3
 kernel_rfl
set_option maxRecDepth 100000 in
set_option maxHeartbeats 8000000 in
theorem cost_any (da xa fa : Option Addr) (dc xc fc fn : Nat) (D : List ChR) (X : List CrR) (w : World) (hd : D.length ≤ 17592186044416) (hx : X.length ≤ 17592186044416) (hD : RowD w da D) (hX : RowX w xa X) :
  Calls Tryz.prog 36 #[.agg #[.slice da D.length dc, .slice xa X.length xc, .slice fa fn fc]] w fun e w' => e = .returned (.int .i64 (wsum (D.map (·.L.length) ++ X.map (·.K.length)))) ∧ Below w.heap.size w w' := by
 have HD : Hid (RowD w da D) := hD
 have HX : Hid (RowX w xa X) := hX
 have HSC : Hid (∀ x : ChR, (Tryz.prog.info? 63).map (·.size) = some x.v.size) := info_chR
 have HSX : Hid (∀ x : CrR, (Tryz.prog.info? 60).map (·.size) = some x.v.size) := info_crR
 obtain ⟨N, hN⟩ : ∃ N, D.length = N := ⟨_, rfl⟩
 obtain ⟨M, hM⟩ : ∃ M, X.length = M := ⟨_, rfl⟩
 have HN : Hid (D.length = N) := hN
 have HM : Hid (X.length = M) := hM
 rw [hN] at hd ⊢
 rw [hM] at hx ⊢
 obtain ⟨R, hR⟩ : ∃ R, wsum (D.map (·.L.length) ++ X.map (·.K.length)) = R := ⟨_, rfl⟩
 have HR : Hid (wsum (D.map (·.L.length) ++ X.map (·.K.length)) = R) := hR
 rw [hR]
 obtain ⟨W1, hW1⟩ : ∃ W1, w.alloc (.cells #[.slice da N dc, .slice xa M xc, .slice fa fn fc] 26) = W1 := ⟨_, rfl⟩
 have b1 := bel_nw hW1
 have HB1 : Hid (Blk W1 w.heap.size 26 #[.slice da N dc, .slice xa M xc, .slice fa fn fc]) := blk_nw hW1
 have c0 := HB1.out.cell 0 _ rfl
 have c1 := HB1.out.cell 1 _ rfl
 clear hD hX hN hM hR
 go_enter Tryz.func36, Tryz.ntmps36
 go_wp2_with fail
 clear c0 c1
 go_loopw [3, 11] (fun s i wr => ∃ (n : Nat) (s0 : Int), n ≤ N ∧ s = .int .i64 s0 ∧ i = .int .i64 n ∧ Hid (wsum ((D.take n).map (·.L.length)) = s0) ∧ Below W1.heap.size W1 wr) (fun _ i _ => N - (intOf i).toNat)
 case atStart => exact ⟨0, 0, Nat.zero_le _, rfl, rfl, by rw [List.take_zero]; exact Eq.refl (0 : Int), Below.refl _ _⟩
 case round =>
  obtain ⟨n, s0, hn, rfl, rfl, HS, bw⟩ := hrel
  by_cases hlt : n < N
  ·have ik : (n : Int) < (N : Int) := by omega
   have in0 : (0 : Int) ≤ (n : Int) := by omega
   have hw1 : IntKind.i64.wrap ((n : Int) + 1) = ((n + 1 : Nat) : Int) := by simp [IntKind.wrap, IntKind.bits, IntKind.signed]; omega
   obtain ⟨x, hx'⟩ : ∃ x, D[n]? = some x := ⟨_, List.getElem?_eq_getElem (by rw [HN.out]; exact hlt)⟩
   have HXN : Hid (D[n]? = some x) := hx'
   obtain ⟨b, off, ha, hc⟩ := (HD.out.low (bel_tr b1 bw)).cells n x hx'
   have hs1 := HSC.out x
   have HS' : Hid (wsum ((D.take (n + 1)).map (·.L.length)) = wrap64 (s0 + (x.L.length : Int))) := by
    show _ = _
    rw [take_map_snoc _ hx', wsum_snoc, HS.out]
   have hv : x.v = #[.slice x.a1 x.L.length x.c1, .slice x.a2 x.K.length x.c2, .slice x.a3 x.S.length x.c3] := rfl
   rw [hv] at hc hs1
   obtain ⟨ln, hln⟩ : ∃ ln, x.L.length = ln := ⟨_, rfl⟩
   rw [hln] at hc hs1 HS'
   obtain ⟨lk, hlk⟩ : ∃ lk, x.K.length = lk := ⟨_, rfl⟩
   obtain ⟨ls, hls⟩ : ∃ ls, x.S.length = ls := ⟨_, rfl⟩
   rw [hlk, hls] at hc hs1
   obtain ⟨W2, hW2⟩ : ∃ W2, wr.alloc (.cells #[.slice x.a1 ln x.c1, .slice x.a2 lk x.c2, .slice x.a3 ls x.c3] 63) = W2 := ⟨_, rfl⟩
   have bw2 : Below W1.heap.size W1 W2 := bel_al bw hW2
   have e0 := (blk_nw hW2).cell 0 _ rfl
   subst ha
   clear hx' hv hln hlk hls HS
   go_wp2_with (first | (refine wpList_load_at rfl _ _ rfl b (off + n * 3) (by rfl) _ hc Tryz.underlying63 hs1 ?_))
   exact ⟨⟨n + 1, _, by omega, rfl, by first | rfl | (congr 1), HS', bw2⟩, by simp only [intOf]; omega⟩
  ·have ik : ¬ (n : Int) < (N : Int) := by omega
   have HS1 : Hid (wsum (D.map (·.L.length)) = s0) := by
    have := HS.out
    rw [List.take_of_length_le (by rw [HN.out]; omega)] at this
    exact this
   obtain ⟨Wm, rfl⟩ : ∃ Wm, Wm = wr := ⟨_, rfl⟩
   have c1 := (HB1.out.kept bw).cell 1 _ rfl
   have b2 := bel_tr b1 bw
   have HX2 : Hid (RowX Wm xa X) := HX.out.low b2
   clear HS hlt bw b1 HB1 HX
   go_wp2_with fail
   clear c1
   go_loopw [3, 24] (fun s i wq => ∃ (n : Nat) (s1 : Int), n ≤ M ∧ s = .int .i64 s1 ∧ i = .int .i64 n ∧ Hid (wsum (D.map (·.L.length) ++ (X.take n).map (·.K.length)) = s1) ∧ Below Wm.heap.size Wm wq) (fun _ i _ => M - (intOf i).toNat)
   case atStart => exact ⟨0, s0, Nat.zero_le _, rfl, rfl, by rw [List.take_zero, List.map_nil, List.append_nil]; exact HS1, Below.refl _ _⟩
   case round =>
    clear HS1 ik
    obtain ⟨n, s0, hn, rfl, rfl, HS, bw⟩ := hrel
    by_cases hlt : n < M
    ·have ik : (n : Int) < (M : Int) := by omega
     have in0 : (0 : Int) ≤ (n : Int) := by omega
     have hw1 : IntKind.i64.wrap ((n : Int) + 1) = ((n + 1 : Nat) : Int) := by simp [IntKind.wrap, IntKind.bits, IntKind.signed]; omega
     obtain ⟨x, hx'⟩ : ∃ x, X[n]? = some x := ⟨_, List.getElem?_eq_getElem (by rw [HM.out]; exact hlt)⟩
     obtain ⟨b, off, ha, hc⟩ := (HX2.out.low bw).cells n x hx'
     have hs1 := HSX.out x
     have HS' : Hid (wsum (D.map (·.L.length) ++ (X.take (n + 1)).map (·.K.length)) = wrap64 (s0 + (x.K.length : Int))) := by
      show _ = _
      rw [take_map_snoc _ hx', ← List.append_assoc, wsum_snoc, HS.out]
     have hv : x.v = #[.int .i64 x.wd, .slice x.a2 x.K.length x.c2, .slice x.a3 x.S.length x.c3] := rfl
     rw [hv] at hc hs1
     obtain ⟨lk, hlk⟩ : ∃ lk, x.K.length = lk := ⟨_, rfl⟩
     obtain ⟨ls, hls⟩ : ∃ ls, x.S.length = ls := ⟨_, rfl⟩
     rw [hlk, hls] at hc hs1
     rw [hlk] at HS'
     obtain ⟨W2, hW2⟩ : ∃ W2, wr.alloc (.cells #[.int .i64 x.wd, .slice x.a2 lk x.c2, .slice x.a3 ls x.c3] 60) = W2 := ⟨_, rfl⟩
     have bw2 : Below Wm.heap.size Wm W2 := bel_al bw hW2
     have e0 := (blk_nw hW2).cell 1 _ rfl
     subst ha
     clear hx' hv hlk hls HS
     go_wp2_with (first | (refine wpList_load_at rfl _ _ rfl b (off + n * 3) (by rfl) _ hc Tryz.underlying60 hs1 ?_))
     exact ⟨⟨n + 1, _, by omega, rfl, by first | rfl | (congr 1), HS', bw2⟩, by simp only [intOf]; omega⟩
    ·have ik : ¬ (n : Int) < (M : Int) := by omega
     have HS2 : Hid (s0 = R) := by
      have := HS.out
      rw [List.take_of_length_le (by rw [HM.out]; omega), HR.out] at this
      exact this.symm
     have b3 := bel_tr b2 bw
     clear HS hlt
     go_wp2
     go_ret
     exact ⟨by rw [← HS2.out]; rfl, b3⟩
end Go.Proofs.YtmfgjicfdjjihaaGreatDoor
