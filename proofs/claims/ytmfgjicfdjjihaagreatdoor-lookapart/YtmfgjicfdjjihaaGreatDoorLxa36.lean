/- Texts joined: LkC -/
import Derived.Test.YtmfgjicfdjjihaaGreatDoorLxa35
namespace Go.Proofs.YtmfgjicfdjjihaaGreatDoor
open Go.RowKit
set_option linter.unusedVariables false
set_option linter.unusedSimpArgs false
set_option maxRecDepth 100000 in
set_option maxHeartbeats 16000000 in
theorem find_lk_no (t : TR) (k : Ky) (w : World) (hok : t.ok w) (hT : TabR t.D t.X t.F) (ko : k.ok) (hk : k.right = false) :
  Calls Tryz.prog 31 #[.agg t.v, .agg k.v] w fun e w' => e = .returned (.tuple #[.int .i64 0, .int .i64 1]) ∧ Below w.heap.size w w' := by
 have HOK : Hid (t.ok w) := hok
 have hd7 := hT.d7
 have hx6 := hT.x6
 obtain ⟨da, dc, D, xa, xc, X, fa, fc, F⟩ := t
 simp only at hd7 hx6
 have hv : (⟨da, dc, D, xa, xc, X, fa, fc, F⟩ : TR).v = #[.slice da 7 dc, .slice xa 6 xc, .slice fa F.length fc] := by show #[_, _, _] = _; rw [hd7, hx6]
 rw [hv]
 obtain ⟨fn, hfn⟩ : ∃ fn, F.length = fn := ⟨_, rfl⟩
 rw [hfn]
 have KS : Hid (∀ W, Calls Tryz.prog 55 #[.agg k.v, .int .i64 0] W fun e w' => e = .returned (.tuple #[.agg pt0.v, .bool false]) ∧ Below W.heap.size W w') := fun W => by
  have := spot_ck k 0 W ko
  unfold spotR at this
  rw [if_neg (by rw [hk]; simp)] at this
  exact this
 rw [show pt0.v = #[.int .u64 0, .int .u64 0, .int .u64 0] from rfl] at KS
 obtain ⟨KV, hKV⟩ : ∃ KV, k.v = KV := ⟨_, rfl⟩
 have hsk : (Tryz.prog.info? 33).map (·.size) = some KV.size := by rw [← hKV]; show _ = some 11; kernel_rfl
 rw [hKV] at KS ⊢
 obtain ⟨W1, hW1⟩ : ∃ W1, w.alloc (.cells #[.slice da 7 dc, .slice xa 6 xc, .slice fa fn fc] 26) = W1 := ⟨_, rfl⟩
 obtain ⟨W2, hW2⟩ : ∃ W2, W1.alloc (.cells KV 33) = W2 := ⟨_, rfl⟩
 obtain ⟨W3, hW3⟩ : ∃ W3, W2.alloc (.cells z13 68) = W3 := ⟨_, rfl⟩
 have b2 := bel_al (bel_nw hW1) hW2
 have b3 := bel_al b2 hW3
 have c0 := (((blk_nw hW1).al hW2).al hW3).cell 0 _ rfl
 have HBK : Hid (Blk W3 W1.heap.size 33 KV) := (blk_nw hW2).al hW3
 obtain ⟨x, hx⟩ : ∃ x, D[0]? = some x := ⟨_, List.getElem?_eq_getElem (by rw [hd7]; omega)⟩
 obtain ⟨b, off, ha, hc⟩ := (HOK.out.low b3).d.cells 0 x hx
 simp only at ha
 have hs1 := info_chR x
 obtain ⟨XV, hXV⟩ : ∃ XV, x.v = XV := ⟨_, rfl⟩
 rw [hXV] at hc hs1
 have hst : (Instr.storeAt 63 (.pointer (some ⟨W3.heap.size, 0, none⟩)) (.agg XV)).run Tryz.prog (W3.alloc (.cells zc 63)) = .ok () (W3.alloc (.cells XV 63)) := run_storeAt_new (P := Tryz.prog) W3 63 zc XV hs1 (by rw [← hXV]; rfl) (by rw [← hXV]; simp [ChR.v, Value.oneCell'])
 obtain ⟨W4, hW4⟩ : ∃ W4, W3.alloc (.cells XV 63) = W4 := ⟨_, rfl⟩
 rw [hW4] at hst
 have q4 := bel_nw hW4
 have atk := (HBK.out.kept q4).at_
 have K1 : Hid _ := KS.out W4
 rw [show off + 0 * 3 = off from by omega] at hc
 subst ha
 clear hok hT hd7 hx6 hfn hKV hx hXV hv ko hk KS
 go_enter Tryz.func31, Tryz.ntmps31
 go_wp2_with fail
 clear c0
 go_loopw [17] (fun i wr => i = .int .i64 0 ∧ W3 = wr) (fun i _ => 7 - (intOf i).toNat)
 case atStart => exact ⟨rfl, by trivial⟩
 case round =>
  obtain ⟨rfl, hwr⟩ := hrel
  subst hwr
  go_wp2_with (first
   | (refine wpList_load_at rfl _ _ rfl b off (by rfl) _ hc Tryz.underlying63 hs1 ?_)
   | (refine wpList_store_new _ _ rfl _ _ _ rfl _ _ rfl rfl hst ?_)
   | (refine wpList_load_at rfl _ _ rfl W1.heap.size 0 (by rfl) _ atk Tryz.underlying33 hsk ?_))
  refine Calls.mono K1.out ?_
  rintro e W5 ⟨rfl, q5⟩
  have b5 := bel_tr b3 (bel_tr q4 q5)
  obtain ⟨W6, hW6⟩ : ∃ W6, W5.alloc (.cells #[.int .u64 0, .int .u64 0, .int .u64 0] 86) = W6 := ⟨_, rfl⟩
  have b6 := bel_al b5 hW6
  have hst6 : (Instr.storeAt 86 (.pointer (some ⟨W5.heap.size, 0, none⟩)) (.agg #[.int .u64 0, .int .u64 0, .int .u64 0])).run Tryz.prog (W5.alloc (.cells #[.int .u64 0, .int .u64 0, .int .u64 0] 86)) = .ok () (W5.alloc (.cells #[.int .u64 0, .int .u64 0, .int .u64 0] 86)) := run_storeAt_new (P := Tryz.prog) W5 86 #[.int .u64 0, .int .u64 0, .int .u64 0] _ (by kernel_rfl) rfl (by kernel_rfl)
  rw [hW6] at hst6
  clear hc hst atk
  go_wp2_with (first | (refine wpList_store_new _ _ rfl _ _ _ rfl _ _ rfl rfl hst6 ?_))
  exact bodyPost_ret (results_tmp2 Tryz.results31 _ _ _) rfl ⟨rfl, b6⟩
set_option maxRecDepth 100000 in
set_option maxHeartbeats 32000000 in
theorem find_lk_yes (t : TR) (k : Ky) (w : World) (hok : t.ok w) (hT : TabR t.D t.X t.F) (hL : Lks w) (hsz : ∀ j, szN t.D t.X j ≤ 2147483648) (ko : k.ok) (hk : k.right = true) :
  Calls Tryz.prog 31 #[.agg t.v, .agg k.v] w fun e w' => e = .returned (.tuple #[.int .i64 (findT t.D t.X t.F k), .int .i64 0]) ∧ Below w.heap.size w w' := by
 have HOK : Hid (t.ok w) := hok
 have HT : Hid (TabR t.D t.X t.F) := hT
 have HLK : Hid (Lks w) := hL
 have HSZ : Hid (∀ j, szN t.D t.X j ≤ 2147483648) := hsz
 have hd7 := hT.d7
 have hx6 := hT.x6
 obtain ⟨da, dc, D, xa, xc, X, fa, fc, F⟩ := t
 simp only at hd7 hx6 HT HSZ
 show Calls _ _ _ _ fun e w' => e = .returned (.tuple #[.int .i64 (findT D X F k), .int .i64 0]) ∧ _
 have hv : (⟨da, dc, D, xa, xc, X, fa, fc, F⟩ : TR).v = #[.slice da 7 dc, .slice xa 6 xc, .slice fa F.length fc] := by show #[_, _, _] = _; rw [hd7, hx6]
 rw [hv]
 have HD : Hid (RowD w da D) := hok.d
 have HX : Hid (RowX w xa X) := hok.x
 have HF : Hid (RowI w fa F) := hok.f
 have HDN : Hid (D.length = 7) := hd7
 have HXN : Hid (X.length = 6) := hx6
 have hfs := hok.f.small
 simp only at hfs
 obtain ⟨fn, hfn⟩ : ∃ fn, F.length = fn := ⟨_, rfl⟩
 have HFN : Hid (F.length = fn) := hfn
 rw [hfn] at hfs ⊢
 have KS : Hid (∀ d : Nat, d < 7 → ∀ W, Calls Tryz.prog 55 #[.agg k.v, .int .i64 (d : Int)] W fun e w' => e = .returned (.tuple #[.agg (k.spot d).v, .bool true]) ∧ Below W.heap.size W w') := fun d hd W => by
  have := spot_ck k (d : Int) W ko
  unfold spotR at this
  rw [if_pos ⟨hk, by omega, by omega⟩] at this
  simp only [Int.toNat_natCast] at this
  exact this
 have KD : Hid (∀ (d : Nat) (x : ChR), d < 7 → D[d]? = some x → ∀ W, x.ok W → Calls Tryz.prog 56 #[.agg x.v, .agg (k.spot d).v] W fun e w' => e = .returned (.tuple #[.int .i64 (clT D X k d : Int), .bool true]) ∧ clT D X k d < szN D X d ∧ Below W.heap.size W w') := fun d x hd hx W hx' => by
  have hr := hT.dim x (List.mem_of_getElem? hx)
  refine (find_ck _ _ _ _ _ _ _ _ _ (k.spot d) W hx'.small hx'.p hx'.i hx'.s (spot_ok ko hk d)).mono ?_
  rintro e w' ⟨hf, hbb⟩
  rcases hf with ⟨hn, _⟩ | ⟨_, v, rfl, hcl⟩
  ·exact absurd hr hn
  ·obtain ⟨rfl, h2⟩ := cl_dim hr hx hcl
   rw [clT_dim D X k hd, sz_dim hd hx]
   exact ⟨rfl, h2, hbb⟩
 obtain ⟨KV, hKV⟩ : ∃ KV, k.v = KV := ⟨_, rfl⟩
 have hsk : (Tryz.prog.info? 33).map (·.size) = some KV.size := by rw [← hKV]; show _ = some 11; kernel_rfl
 rw [hKV] at KS ⊢
 obtain ⟨FT, hFT⟩ : ∃ FT, findT D X F k = FT := ⟨_, rfl⟩
 have HFT : Hid (findT D X F k = FT) := hFT
 rw [hFT]
 obtain ⟨W1, hW1⟩ : ∃ W1, w.alloc (.cells #[.slice da 7 dc, .slice xa 6 xc, .slice fa fn fc] 26) = W1 := ⟨_, rfl⟩
 obtain ⟨W2, hW2⟩ : ∃ W2, W1.alloc (.cells KV 33) = W2 := ⟨_, rfl⟩
 have b2 := bel_al (bel_nw hW1) hW2
 obtain ⟨W3, hW3⟩ : ∃ W3, W2.alloc (.cells z13 68) = W3 := ⟨_, rfl⟩
 have q3 := bel_nw hW3
 have HB2 : Hid (Blk W2 w.heap.size 26 #[.slice da 7 dc, .slice xa 6 xc, .slice fa fn fc]) := (blk_nw hW1).al hW2
 have HBK : Hid (Blk W2 W1.heap.size 33 KV) := blk_nw hW2
 have HA3 : Hid (Arr W3 W2.heap.size (List.replicate 13 0)) := arr_new hW3
 have c0 := (HB2.out.kept q3).cell 0 _ rfl
 clear hok hT hL hsz hd7 hx6 hfn hKV hv ko hk hFT
 go_enter Tryz.func31, Tryz.ntmps31
 go_wp2_with fail
 clear c0 hW1 hW2 hW3
 go_loopw [17] (fun i wr => ∃ (n : Nat) (M : List Int), n ≤ 7 ∧ i = .int .i64 n ∧ Hid (ClOk D X k n M) ∧ Hid (Arr wr W2.heap.size M) ∧ Below W2.heap.size W2 wr) (fun i _ => 7 - (intOf i).toNat)
 case atStart => exact ⟨0, _, by omega, rfl, ⟨rfl, fun j hj => by omega⟩, HA3, q3⟩
 case round =>
  obtain ⟨n, M, hn, rfl, HM, HA, qw⟩ := hrel
  clear HA3 q3
  have bw := bel_tr b2 qw
  by_cases hlt : n < 7
  ·have ik : (n : Int) < 7 := by omega
   have in0 : (0 : Int) ≤ (n : Int) := by omega
   have i13 : (n : Int) < 13 := by omega
   have hw1 : IntKind.i64.wrap ((n : Int) + 1) = ((n + 1 : Nat) : Int) := by simp [IntKind.wrap, IntKind.bits, IntKind.signed]; omega
   obtain ⟨x, hx⟩ : ∃ x, D[n]? = some x := ⟨_, List.getElem?_eq_getElem (by rw [HDN.out]; exact hlt)⟩
   obtain ⟨b, off, ha, hc⟩ := (HD.out.low bw).cells n x hx
   have HOX : Hid (x.ok wr) := (HD.out.low bw).each x (List.mem_of_getElem? hx)
   have hs1 := info_chR x
   have KD' : Hid _ := KD.out n x hlt hx
   have hsp : (Tryz.prog.info? 86).map (·.size) = some 3 := by kernel_rfl
   obtain ⟨XV, hXV⟩ : ∃ XV, x.v = XV := ⟨_, rfl⟩
   rw [hXV] at hc hs1 KD'
   have hst : (Instr.storeAt 63 (.pointer (some ⟨wr.heap.size, 0, none⟩)) (.agg XV)).run Tryz.prog (wr.alloc (.cells zc 63)) = .ok () (wr.alloc (.cells XV 63)) := run_storeAt_new (P := Tryz.prog) wr 63 zc XV hs1 (by rw [← hXV]; rfl) (by rw [← hXV]; simp [ChR.v, Value.oneCell'])
   obtain ⟨W4, hW4⟩ : ∃ W4, wr.alloc (.cells XV 63) = W4 := ⟨_, rfl⟩
   rw [hW4] at hst
   have q4 := bel_nw hW4
   have HC4 : Hid (Blk W4 wr.heap.size 63 XV) := blk_nw hW4
   have atk := (HBK.out.kept (bel_tr qw q4)).at_
   have K1 : Hid _ := KS.out n hlt W4
   obtain ⟨⟨p0, p1, p2⟩, hp⟩ : ∃ p, k.spot n = p := ⟨_, rfl⟩
   rw [hp] at K1 KD'
   have hpv : Pt.v ⟨p0, p1, p2⟩ = #[.int .u64 p0, .int .u64 p1, .int .u64 p2] := rfl
   rw [hpv] at K1 KD'
   subst ha
   clear hx hXV hp hpv hW4
   go_wp2_with (first
    | (refine wpList_load_at rfl _ _ rfl b (off + n * 3) (by rfl) _ hc Tryz.underlying63 hs1 ?_)
    | (refine wpList_store_new _ _ rfl _ _ _ rfl _ _ rfl rfl hst ?_)
    | (refine wpList_load_at rfl _ _ rfl W1.heap.size 0 (by rfl) _ atk Tryz.underlying33 hsk ?_))
   refine Calls.mono K1.out ?_
   rintro e W5 ⟨rfl, q5⟩
   obtain ⟨W6, hW6⟩ : ∃ W6, W5.alloc (.cells #[.int .u64 p0, .int .u64 p1, .int .u64 p2] 86) = W6 := ⟨_, rfl⟩
   have q56 := bel_al q5 hW6
   have q46 := bel_tr q4 q56
   have at6 := (HC4.out.kept q56).at_
   have atp := (blk_nw hW6).at_
   have K2 : Hid _ := KD'.out W6 (HOX.out.low q46)
   clear hc hst atk K1 q5
   go_wp2_with (first
    | (refine wpList_load_at rfl _ _ rfl wr.heap.size 0 (by rfl) _ at6 Tryz.underlying63 hs1 ?_)
    | (refine wpList_load_at rfl _ _ rfl W5.heap.size 0 (by rfl) _ atp Tryz.underlying86 hsp ?_))
   refine Calls.mono K2.out ?_
   rintro e W7 ⟨rfl, hcl, q7⟩
   have q47 := bel_tr q46 q7
   have qw7 := bel_tr qw q47
   have HA7 : Hid (Arr W7 W2.heap.size M) := HA.out.kept q47
   obtain ⟨y0, hy0⟩ : ∃ y, M[n]? = some y := ⟨_, List.getElem?_eq_getElem (by rw [HM.out.1]; omega)⟩
   have f1 := HA7.out.at_ hy0
   have fz := HA7.out.frozen n
   have HM8 : Hid (ClOk D X k (n + 1) (M.set n (clT D X k n : Int))) := HM.out.step (by omega) hcl
   obtain ⟨m, hm⟩ : ∃ m, clT D X k n = m := ⟨_, rfl⟩
   rw [hm] at HM8 ⊢
   have HA8 : Hid (Arr (W7.setCell ⟨W2.heap.size, n, none⟩ (.int .i64 (m : Int))) W2.heap.size (M.set n (m : Int))) := HA7.out.put n _
   have qw8 : Below W2.heap.size W2 (W7.setCell ⟨W2.heap.size, n, none⟩ (.int .i64 (m : Int))) := qw7.setCell (Nat.le_refl _) _
   clear at6 atp K2 q7 q46 q47 q56 hy0 HM HA HA7 qw7 qw bw hcl hm KD' HOX
   go_wp2
   exact ⟨⟨n + 1, M.set n (m : Int), by omega, by first | rfl | (congr 1), HM8, HA8, qw8⟩, by simp only [intOf]; omega⟩
  ·have hn7 : n = 7 := by omega
   subst hn7
   have d1 := (HB2.out.kept qw).cell 1 _ rfl
   rw [show ((7 : Nat) : Int) = 7 from rfl]
   clear hlt KS KD bw
   go_wp2_with fail
   clear d1
   go_loopw [42] (fun i wr => ∃ (n : Nat) (M : List Int), n ≤ 6 ∧ i = .int .i64 n ∧ Hid (ClOk D X k (7 + n) M) ∧ Hid (Arr wr W2.heap.size M) ∧ Below W2.heap.size W2 wr) (fun i _ => 6 - (intOf i).toNat)
   case atStart => exact ⟨0, M, by omega, rfl, HM, HA, qw⟩
   case round =>
    clear HM HA qw
    obtain ⟨n, M, hn, rfl, HM, HA, qw⟩ := hrel
    have bw := bel_tr b2 qw
    by_cases hlt : n < 6
    ·have ik : (n : Int) < 6 := by omega
     have in0 : (0 : Int) ≤ (n : Int) := by omega
     have hw1 : IntKind.i64.wrap ((n : Int) + 1) = ((n + 1 : Nat) : Int) := by simp [IntKind.wrap, IntKind.bits, IntKind.signed]; omega
     have hw7 : IntKind.i64.wrap (7 + (n : Int)) = ((7 + n : Nat) : Int) := by simp [IntKind.wrap, IntKind.bits, IntKind.signed]; omega
     have n713' : (7 : Int) + (n : Int) < 13 := by omega
     have n70' : (0 : Int) ≤ 7 + (n : Int) := by omega
     have nt7 : ((7 : Int) + (n : Int)).toNat = 7 + n := by omega
     have n713 : ((7 + n : Nat) : Int) < 13 := by omega
     have n70 : (0 : Int) ≤ ((7 + n : Nat) : Int) := by omega
     obtain ⟨x, hx⟩ : ∃ x, X[n]? = some x := ⟨_, List.getElem?_eq_getElem (by rw [HXN.out]; exact hlt)⟩
     obtain ⟨b, off, ha, hc⟩ := (HX.out.low bw).cells n x hx
     have okx := HX.out.each x (List.mem_of_getElem? hx)
     obtain ⟨hwd, hkl, hkg, hml⟩ := cl_crs (k := k) HT.out hlt hx (fun j hj => (HM.out.2 j hj).2)
     have hsl := sd_lt n hlt
     have hrk := (HT.out.crs n x hx).2.2.1
     have HM8 : Hid (ClOk D X k (7 + (n + 1)) (M.set (7 + n) (clT D X k (7 + n) : Int))) := HM.out.step (by omega) hml
     have hs1 := info_crR x
     have hsd0 := fun W (h : Lks W) => h.at_ hlt
     obtain ⟨P, hP⟩ : ∃ P, sdL n = P := ⟨_, rfl⟩
     obtain ⟨R, hR⟩ : ∃ R, sdR n = R := ⟨_, rfl⟩
     rw [hP, hR] at hsl hsd0 hrk
     rw [hP] at hkl hkg
     rw [hR] at hwd hkl hkg
     have HP1 : Hid (M[P]? = some (clT D X k P : Int)) := (HM.out.2 P hsl.1).1
     have HR1 : Hid (M[R]? = some (clT D X k R : Int)) := (HM.out.2 R hsl.2).1
     have hlP : clT D X k P < szN D X P := (HM.out.2 P hsl.1).2
     have hzP := HSZ.out P
     have hzR := HSZ.out R
     obtain ⟨mL, hmL⟩ : ∃ m, clT D X k P = m := ⟨_, rfl⟩
     obtain ⟨mR, hmR⟩ : ∃ m, clT D X k R = m := ⟨_, rfl⟩
     obtain ⟨m, hm⟩ : ∃ m, clT D X k (7 + n) = m := ⟨_, rfl⟩
     obtain ⟨pb, hpb⟩ : ∃ m, szN D X R = m := ⟨_, rfl⟩
     rw [hmL] at hkl hkg HP1 hlP
     rw [hmR] at hkl hkg HR1
     rw [hm] at hkg HM8
     rw [hpb] at hwd hkl hkg hzR
     obtain ⟨mi, hmi⟩ : ∃ mi, mL * pb = mi := ⟨_, rfl⟩
     rw [hmi] at hkl hkg
     have hks := okx.i.small
     have hmul : IntKind.i64.wrap ((mL : Int) * (pb : Int)) = (mi : Int) := by
      have e : (mL : Int) * (pb : Int) = (mi : Int) := by rw [← hmi]; simp
      rw [e]
      exact wraps_i64 _ (by omega) (by omega)
     have hadd : IntKind.i64.wrap ((mi : Int) + (mR : Int)) = ((mi + mR : Nat) : Int) := by rw [wraps_i64 _ (by omega) (by omega)]; omega
     obtain ⟨bk, ok_, ek, hck⟩ := okx.i.cells (by omega)
     have hckm := hck (mi + mR) hkl
     rw [hkg] at hckm
     have HCK : Hid (w.cell? ⟨bk, ok_ + (mi + mR), none⟩ = some (.int .i64 (m : Int))) := hckm
     have HBKW : Hid (bk < w.heap.size) := World.block_lt_of_cell? w _ hckm
     have hxv : x.v = #[.int .i64 (pb : Int), .slice (some ⟨bk, ok_, none⟩) x.K.length x.c2, .slice x.a3 x.S.length x.c3] := by
      show #[_, _, _] = _
      rw [hwd, ek]
     rw [hxv] at hc hs1
     obtain ⟨l2, hl2⟩ : ∃ l2, x.K.length = l2 := ⟨_, rfl⟩
     obtain ⟨l3, hl3⟩ : ∃ l3, x.S.length = l3 := ⟨_, rfl⟩
     rw [hl2] at hc hs1 hkl
     rw [hl3] at hc hs1
     generalize x.c2 = y2 at hc hs1
     generalize x.a3 = x3 at hc hs1
     generalize x.c3 = y3 at hc hs1
     have hklI : ((mi + mR : Nat) : Int) < (l2 : Int) := by omega
     have hk0I : (0 : Int) ≤ ((mi + mR : Nat) : Int) := by omega
     have hklI' : (mi : Int) + (mR : Int) < (l2 : Int) := by omega
     have hk0I' : (0 : Int) ≤ (mi : Int) + (mR : Int) := by omega
     have hkt : ((mi : Int) + (mR : Int)).toNat = mi + mR := by omega
     have hP13 : (P : Int) < 13 := by omega
     have hR13 : (R : Int) < 13 := by omega
     have hP0 : (0 : Int) ≤ (P : Int) := by omega
     have hR0 : (0 : Int) ≤ (R : Int) := by omega
     obtain ⟨W3, hW3⟩ : ∃ W3, wr.alloc (.cells #[.int .i64 (pb : Int), .slice (some ⟨bk, ok_, none⟩) l2 y2, .slice x3 l3 y3] 60) = W3 := ⟨_, rfl⟩
     have q3 := bel_nw hW3
     obtain ⟨W4, hW4⟩ : ∃ W4, W3.alloc (.cells #[.int .i64 (P : Int), .int .i64 (R : Int)] 70) = W4 := ⟨_, rfl⟩
     have q4 := bel_al q3 hW4
     have HC4 : Hid (Blk W4 wr.heap.size 60 #[.int .i64 (pb : Int), .slice (some ⟨bk, ok_, none⟩) l2 y2, .slice x3 l3 y3]) := (blk_nw hW3).al hW4
     have HS4 : Hid (Blk W4 W3.heap.size 70 #[.int .i64 (P : Int), .int .i64 (R : Int)]) := blk_nw hW4
     have HA4 : Hid (Arr W4 W2.heap.size M) := HA.out.kept q4
     have hsd := hsd0 W3 (HLK.out.below (bel_tr bw q3))
     have hs70 : (Tryz.prog.info? 70).map (·.size) = some 2 := by kernel_rfl
     have qw4 := bel_tr qw q4
     have HN1 : Hid (W2.heap.size < wr.heap.size ∧ wr.heap.size < W3.heap.size) := ⟨Blk.lt HA.out, (blk_nw hW3).lt⟩
     have HPR : Hid (P < 7 + n ∧ R < 7 + n) := hsl
     subst ha
     clear hx okx hwd hkl hkg hml hsl hsd0 hP hR hmL hmR hm hpb hmi ek hck hckm hxv hl2 hl3 hrk hlP hzP hzR
     go_wp2_with (first
      | (refine wpList_load_at rfl _ _ rfl b (off + n * 3) (by rfl) _ hc Tryz.underlying60 hs1 ?_)
      | (refine wpList_load_arr rfl _ _ rfl 0 (n * 2) (by rfl) _ hsd (fun W => by rfl) hs70 ?_))
     clear hsd hc
     have q5 := bel_tr q4 (below_drew W4)
     have HA5 : Hid (Arr W4.drew W2.heap.size M) := HA.out.kept q5
     have HC5 : Hid (Blk W4.drew wr.heap.size 60 #[.int .i64 (pb : Int), .slice (some ⟨bk, ok_, none⟩) l2 y2, .slice x3 l3 y3]) := HC4.out.drew
     have HS5 : Hid (Blk W4.drew W3.heap.size 70 #[.int .i64 (P : Int), .int .i64 (R : Int)]) := HS4.out.drew
     have qw5 := bel_tr qw q5
     refine wp_region_noPanic ?_
     refine wp_region_held_drew (S := fun w'' => Blk w'' wr.heap.size 60 #[.int .i64 (pb : Int), .slice (some ⟨bk, ok_, none⟩) l2 y2, .slice x3 l3 y3] ∧ Blk w'' W3.heap.size 70 #[.int .i64 (P : Int), .int .i64 (R : Int)] ∧ w''.cell? ⟨W2.heap.size, P, none⟩ = some (.int .i64 (mL : Int)) ∧ w''.cell? ⟨W2.heap.size, R, none⟩ = some (.int .i64 (mR : Int)) ∧ w''.cell? ⟨bk, ok_ + (mi + mR), none⟩ = some (.int .i64 (m : Int))) (by kernel_rfl) ⟨HC5.out, HS5.out, HA5.out.at_ HP1.out, HA5.out.at_ HR1.out, kept (bel_tr b2 qw5) HCK.out⟩ (fun hHeld => ?_)
     refine qtk (i := 0) (oi := { dst := some 50, op := Op.move (.tmp 11), type := 3, pos := "look.go:112", after := #[], guard := none }) (v := (.int .i64 (n : Int))) hHeld ?_ ?_
     ·intro w9 hSw
      try dsimp only at hSw
      go_simp
     try simp only [qpu]
     refine qtk (i := 1) (oi := { dst := some 51, op := Op.binOp BinOp.add 3 (.const (.int .i64 7)) (.tmp 50) 3, type := 3, pos := "look.go:112", after := #[{ on := 0, ground := Ground.data }], guard := none }) (v := (.int .i64 ((7 + n : Nat) : Int))) hHeld ?_ ?_
     ·intro w9 hSw
      try dsimp only at hSw
      go_simp
     try simp only [qpu]
     refine qtk (i := 2) (oi := { dst := some 52, op := Op.fieldAddr 60 (.tmp 12) 1, type := 0, pos := "look.go:112", after := #[], guard := none }) (v := (.pointer (some ⟨wr.heap.size, 1, none⟩))) hHeld ?_ ?_
     ·intro w9 hSw
      try dsimp only at hSw
      go_simp
     try simp only [qpu]
     refine qtk (i := 3) (oi := { dst := some 53, op := Op.load 24 (.tmp 52), type := 24, pos := "look.go:112", after := #[{ on := 2, ground := Ground.data }], guard := none }) (v := (.slice (some ⟨bk, ok_, none⟩) l2 y2)) hHeld ?_ ?_
     ·intro w9 hSw
      try dsimp only at hSw
      have hcc := hSw.1.cell 1 _ rfl
      go_simp
     try simp only [qpu]
     refine qtk (i := 4) (oi := { dst := some 54, op := Op.indexAddr 70 (.tmp 13) (.const (.int .i64 0)), type := 0, pos := "look.go:112", after := #[], guard := none }) (v := (.pointer (some ⟨W3.heap.size, 0, none⟩))) hHeld ?_ ?_
     ·intro w9 hSw
      try dsimp only at hSw
      go_simp
     try simp only [qpu]
     refine qtk (i := 5) (oi := { dst := some 55, op := Op.load 3 (.tmp 54), type := 3, pos := "look.go:112", after := #[{ on := 4, ground := Ground.data }], guard := none }) (v := (.int .i64 (P : Int))) hHeld ?_ ?_
     ·intro w9 hSw
      try dsimp only at hSw
      have hcc := hSw.2.1.cell 0 _ rfl
      go_simp
     try simp only [qpu]
     refine qtk (i := 6) (oi := { dst := some 56, op := Op.indexAddr 68 (.tmp 6) (.tmp 55), type := 0, pos := "look.go:112", after := #[{ on := 5, ground := Ground.data }], guard := none }) (v := (.pointer (some ⟨W2.heap.size, P, none⟩))) hHeld ?_ ?_
     ·intro w9 hSw
      try dsimp only at hSw
      go_simp
     try simp only [qpu]
     refine qtk (i := 7) (oi := { dst := some 57, op := Op.load 3 (.tmp 56), type := 3, pos := "look.go:112", after := #[{ on := 6, ground := Ground.data }], guard := none }) (v := (.int .i64 (mL : Int))) hHeld ?_ ?_
     ·intro w9 hSw
      try dsimp only at hSw
      have hcc := hSw.2.2.1
      go_simp
     try simp only [qpu]
     refine qtk (i := 8) (oi := { dst := some 58, op := Op.fieldAddr 60 (.tmp 12) 0, type := 0, pos := "look.go:112", after := #[], guard := none }) (v := (.pointer (some ⟨wr.heap.size, 0, none⟩))) hHeld ?_ ?_
     ·intro w9 hSw
      try dsimp only at hSw
      go_simp
     try simp only [qpu]
     refine qtk (i := 9) (oi := { dst := some 59, op := Op.load 3 (.tmp 58), type := 3, pos := "look.go:112", after := #[{ on := 8, ground := Ground.data }], guard := none }) (v := (.int .i64 (pb : Int))) hHeld ?_ ?_
     ·intro w9 hSw
      try dsimp only at hSw
      have hcc := hSw.1.cell 0 _ rfl
      go_simp
     try simp only [qpu]
     refine qtk (i := 10) (oi := { dst := some 60, op := Op.binOp BinOp.mul 3 (.tmp 57) (.tmp 59) 3, type := 3, pos := "look.go:112", after := #[{ on := 7, ground := Ground.data }, { on := 9, ground := Ground.data }], guard := none }) (v := (.int .i64 (mi : Int))) hHeld ?_ ?_
     ·intro w9 hSw
      try dsimp only at hSw
      go_simp
     try simp only [qpu]
     refine qtk (i := 11) (oi := { dst := some 61, op := Op.indexAddr 70 (.tmp 13) (.const (.int .i64 1)), type := 0, pos := "look.go:112", after := #[], guard := none }) (v := (.pointer (some ⟨W3.heap.size, 1, none⟩))) hHeld ?_ ?_
     ·intro w9 hSw
      try dsimp only at hSw
      go_simp
     try simp only [qpu]
     refine qtk (i := 12) (oi := { dst := some 62, op := Op.load 3 (.tmp 61), type := 3, pos := "look.go:112", after := #[{ on := 11, ground := Ground.data }], guard := none }) (v := (.int .i64 (R : Int))) hHeld ?_ ?_
     ·intro w9 hSw
      try dsimp only at hSw
      have hcc := hSw.2.1.cell 1 _ rfl
      go_simp
     try simp only [qpu]
     refine qtk (i := 13) (oi := { dst := some 63, op := Op.indexAddr 68 (.tmp 6) (.tmp 62), type := 0, pos := "look.go:112", after := #[{ on := 12, ground := Ground.data }], guard := none }) (v := (.pointer (some ⟨W2.heap.size, R, none⟩))) hHeld ?_ ?_
     ·intro w9 hSw
      try dsimp only at hSw
      go_simp
     try simp only [qpu]
     refine qtk (i := 14) (oi := { dst := some 64, op := Op.load 3 (.tmp 63), type := 3, pos := "look.go:112", after := #[{ on := 13, ground := Ground.data }], guard := none }) (v := (.int .i64 (mR : Int))) hHeld ?_ ?_
     ·intro w9 hSw
      try dsimp only at hSw
      have hcc := hSw.2.2.2.1
      go_simp
     try simp only [qpu]
     refine qtk (i := 15) (oi := { dst := some 65, op := Op.binOp BinOp.add 3 (.tmp 60) (.tmp 64) 3, type := 3, pos := "look.go:112", after := #[{ on := 10, ground := Ground.data }, { on := 14, ground := Ground.data }], guard := none }) (v := (.int .i64 ((mi + mR : Nat) : Int))) hHeld ?_ ?_
     ·intro w9 hSw
      try dsimp only at hSw
      go_simp
     try simp only [qpu]
     refine qtk (i := 16) (oi := { dst := some 66, op := Op.indexAddr 24 (.tmp 53) (.tmp 65), type := 0, pos := "look.go:112", after := #[{ on := 3, ground := Ground.data }, { on := 15, ground := Ground.data }], guard := none }) (v := (.pointer (some ⟨bk, ok_ + (mi + mR), none⟩))) hHeld ?_ ?_
     ·intro w9 hSw
      try dsimp only at hSw
      go_simp
     try simp only [qpu]
     refine qtk (i := 17) (oi := { dst := some 67, op := Op.load 3 (.tmp 66), type := 3, pos := "look.go:112", after := #[{ on := 16, ground := Ground.data }], guard := none }) (v := (.int .i64 (m : Int))) hHeld ?_ ?_
     ·intro w9 hSw
      try dsimp only at hSw
      have hcc := hSw.2.2.2.2
      go_simp
     try simp only [qpu]
     refine qtk (i := 18) (oi := { dst := some 68, op := Op.indexAddr 68 (.tmp 6) (.tmp 51), type := 0, pos := "look.go:112", after := #[{ on := 1, ground := Ground.data }, { on := 0, ground := Ground.phase }, { on := 1, ground := Ground.phase }, { on := 2, ground := Ground.phase }, { on := 3, ground := Ground.phase }, { on := 4, ground := Ground.phase }, { on := 5, ground := Ground.phase }, { on := 6, ground := Ground.phase }, { on := 7, ground := Ground.phase }, { on := 8, ground := Ground.phase }, { on := 9, ground := Ground.phase }, { on := 10, ground := Ground.phase }, { on := 11, ground := Ground.phase }, { on := 12, ground := Ground.phase }, { on := 13, ground := Ground.phase }, { on := 14, ground := Ground.phase }, { on := 15, ground := Ground.phase }, { on := 16, ground := Ground.phase }, { on := 17, ground := Ground.phase }], guard := none }) (v := (.pointer (some ⟨W2.heap.size, 7 + n, none⟩))) hHeld ?_ ?_
     ·intro w9 hSw
      try dsimp only at hSw
      go_simp
     try simp only [qpu]
     obtain ⟨y0, hy0⟩ : ∃ y, M[7 + n]? = some y := ⟨_, List.getElem?_eq_getElem (by rw [HM.out.1]; omega)⟩
     have f1 := HA5.out.at_ hy0
     have fz := HA5.out.frozen (7 + n)
     have HA9 : Hid (Arr (W4.drew.setCell ⟨W2.heap.size, 7 + n, none⟩ (.int .i64 (m : Int))) W2.heap.size (M.set (7 + n) (m : Int))) := HA5.out.put (7 + n) _
     have qw9 : Below W2.heap.size W2 (W4.drew.setCell ⟨W2.heap.size, 7 + n, none⟩ (.int .i64 (m : Int))) := qw5.setCell (Nat.le_refl _) _
     refine wpAnyH_ready (rs := [19]) (by kernel_rfl) (by simp) ?_
     refine AllReadyH.cons (o := { dst := none, op := Op.store 3 (.tmp 68) (.tmp 67), type := 0, pos := "look.go:112", after := #[{ on := 18, ground := Ground.data }, { on := 17, ground := Ground.data }, { on := 0, ground := Ground.phase }, { on := 1, ground := Ground.phase }, { on := 2, ground := Ground.phase }, { on := 3, ground := Ground.phase }, { on := 4, ground := Ground.phase }, { on := 5, ground := Ground.phase }, { on := 6, ground := Ground.phase }, { on := 7, ground := Ground.phase }, { on := 8, ground := Ground.phase }, { on := 9, ground := Ground.phase }, { on := 10, ground := Ground.phase }, { on := 11, ground := Ground.phase }, { on := 12, ground := Ground.phase }, { on := 13, ground := Ground.phase }, { on := 14, ground := Ground.phase }, { on := 15, ground := Ground.phase }, { on := 16, ground := Ground.phase }, { on := 17, ground := Ground.phase }], guard := none }) rfl (fun K hK => ?_) AllReadyH.nil
     go_simp
     refine hK.out _ _ ⟨Blk.put_other HC5.out HA5.out (Nat.ne_of_gt HN1.out.1) _ _, Blk.put_other HS5.out HA5.out (Nat.ne_of_gt (Nat.lt_trans HN1.out.1 HN1.out.2)) _ _, HA9.out.at_ (by rw [List.getElem?_set_ne (by have := HPR.out; omega)]; exact HP1.out), HA9.out.at_ (by rw [List.getElem?_set_ne (by have := HPR.out; omega)]; exact HR1.out), kept (bel_tr b2 qw9) HCK.out⟩ (fun hHeld => ?_)
     clear hK K
     try simp only [qpu]
     refine wpAnyH_done (by kernel_rfl) ?_ _
     refine NoPanic.normal ?_
     clear f1 fz hy0 HA5 HC5 HS5 qw5 q5 q4 q3 qw4 qw bw HA HM HA4 HC4 HS4

     go_wp2
     exact ⟨⟨n + 1, M.set (7 + n) (m : Int), by omega, by first | rfl | (congr 1), HM8, HA9, qw9⟩, by simp only [intOf]; omega⟩
    ·have hn6 : n = 6 := by omega
     subst hn6
     have d2 := (HB2.out.kept qw).cell 2 _ rfl
     obtain ⟨h12, hl12⟩ := HM.out.2 12 (by omega)
     have f12 := HA.out.at_ h12
     have hfl : clT D X k 12 < fn := by rw [← HFN.out, HT.out.fl]; exact hl12
     have hft : F.getD (clT D X k 12) 0 = FT := HFT.out
     obtain ⟨bf, of_, ef, hcf⟩ := (HF.out.below bw).cells (by rw [HFN.out]; omega)
     have hcfm := hcf (clT D X k 12) (by rw [HFN.out]; exact hfl)
     rw [hft] at hcfm
     obtain ⟨m, hm⟩ : ∃ m, clT D X k 12 = m := ⟨_, rfl⟩
     rw [hm] at f12 hfl hcfm
     have hflI : (m : Int) < (fn : Int) := by omega
     have hf0I : (0 : Int) ≤ (m : Int) := by omega
     rw [show ((6 : Nat) : Int) = 6 from rfl]
     subst ef
     clear hcf hm hft h12 hl12
     go_wp2
     exact bodyPost_ret (results_tmp2 Tryz.results31 _ _ _) rfl ⟨rfl, bw⟩
/-- find: the program. -/
theorem find_lk (t : TR) (k : Ky) (w : World) (hok : t.ok w) (hT : TabR t.D t.X t.F) (hL : Lks w) (hsz : ∀ j, szN t.D t.X j ≤ 2147483648) (ko : k.ok) :
  Calls Tryz.prog 31 #[.agg t.v, .agg k.v] w fun e w' => e = .returned (.tuple #[.int .i64 (findA t.D t.X t.F k).1, .int .i64 (findA t.D t.X t.F k).2]) ∧ Below w.heap.size w w' := by
 cases hk : k.right with
 | true => rw [findA_yes hT hk]; exact find_lk_yes t k w hok hT hL hsz ko hk
 | false => rw [findA_no (by rw [hk]; simp)]; exact find_lk_no t k w hok hT ko hk
set_option maxRecDepth 100000 in
set_option maxHeartbeats 8000000 in
/-- Find: the program. -/
theorem lookup_lk (t : TR) (k : Ky) (w : World) (hok : t.ok w) (hL : Lks w) (hsz : ∀ j, szN t.D t.X j ≤ 2147483648) (htop : ∀ n ∈ t.F, n ≤ 9223372036854775807) (ko : k.ok) :
  Calls Tryz.prog 12 #[.agg t.v, .agg k.v] w fun e w' => e = .returned (.tuple #[.int .i64 (findA t.D t.X t.F k).1, .int .i64 (findA t.D t.X t.F k).2]) ∧ Below w.heap.size w w' := by
 have HOK : Hid (t.ok w) := hok
 have KC : Hid (∀ W, Below w.heap.size w W → Calls Tryz.prog 9 #[.agg t.v] W fun e w' => Tells e (TabR t.D t.X t.F) ∧ Below W.heap.size W w') := fun W hb => check_lk t W (hok.low hb) (hL.below hb) hsz htop
 have KF : Hid (TabR t.D t.X t.F → ∀ W, Below w.heap.size w W → Calls Tryz.prog 31 #[.agg t.v, .agg k.v] W fun e w' => e = .returned (.tuple #[.int .i64 (findA t.D t.X t.F k).1, .int .i64 (findA t.D t.X t.F k).2]) ∧ Below W.heap.size W w') := fun hT W hb => find_lk t k W (hok.low hb) hT (hL.below hb) hsz ko
 have HNO : Hid (¬ TabR t.D t.X t.F → findA t.D t.X t.F k = (0, 1)) := fun h => findA_no (fun hh => h hh.1)
 obtain ⟨R, hR⟩ : ∃ R, findA t.D t.X t.F k = R := ⟨_, rfl⟩
 rw [hR] at KF HNO ⊢
 have hst : (Tryz.prog.info? 26).map (·.size) = some t.v.size := by show _ = some 3; kernel_rfl
 obtain ⟨TV, hTV⟩ : ∃ TV, t.v = TV := ⟨_, rfl⟩
 obtain ⟨KV, hKV⟩ : ∃ KV, k.v = KV := ⟨_, rfl⟩
 have hsk : (Tryz.prog.info? 33).map (·.size) = some KV.size := by rw [← hKV]; show _ = some 11; kernel_rfl
 rw [hTV] at KC KF hst ⊢
 rw [hKV] at KF ⊢
 obtain ⟨Q, hQ⟩ : ∃ Q, TabR t.D t.X t.F = Q := ⟨_, rfl⟩
 rw [hQ] at KC KF HNO
 obtain ⟨W1, hW1⟩ : ∃ W1, w.alloc (.cells TV 26) = W1 := ⟨_, rfl⟩
 obtain ⟨W2, hW2⟩ : ∃ W2, W1.alloc (.cells KV 33) = W2 := ⟨_, rfl⟩
 have b2 := bel_al (bel_nw hW1) hW2
 have HB2 : Hid (Blk W2 w.heap.size 26 TV) := (blk_nw hW1).al hW2
 have HBK : Hid (Blk W2 W1.heap.size 33 KV) := blk_nw hW2
 have at2 := HB2.out.at_
 have K1 : Hid _ := KC.out W2 b2
 clear hok hL hsz htop ko hR hTV hKV hQ
 go_enter Tryz.func12, Tryz.ntmps12
 go_wp2_with (first
  | (refine wpList_load_at rfl _ _ rfl w.heap.size 0 (by rfl) _ at2 Tryz.underlying26 hst ?_))
 refine Calls.mono K1.out ?_
 rintro e W3 ⟨⟨r, rfl, hr⟩, q3⟩
 have b3 := bel_tr b2 q3
 clear at2 K1 hW1 hW2
 cases r
 ·have HN : Hid (R = (0, 1)) := HNO.out (fun h => by have := hr.2 h; cases this)
  clear hr
  go_wp2
  exact bodyPost_ret (results_tmp2 Tryz.results12 _ _ _) rfl ⟨by rw [HN.out]; rfl, b3⟩
 ·have K2 : Hid _ := KF.out (hr.1 rfl) W3 b3
  have at3 := (HB2.out.kept q3).at_
  have atk := (HBK.out.kept q3).at_
  clear hr
  go_wp2_with (first
   | (refine wpList_load_at rfl _ _ rfl w.heap.size 0 (by rfl) _ at3 Tryz.underlying26 hst ?_)
   | (refine wpList_load_at rfl _ _ rfl W1.heap.size 0 (by rfl) _ atk Tryz.underlying33 hsk ?_))
  refine Calls.mono K2.out ?_
  rintro e W4 ⟨rfl, q4⟩
  have b4 := bel_tr b3 q4
  clear at3 atk K2
  go_wp2
  exact bodyPost_ret (results_tmp2 Tryz.results12 _ _ _) rfl ⟨rfl, b4⟩
end Go.Proofs.YtmfgjicfdjjihaaGreatDoor
