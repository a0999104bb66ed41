/- Texts joined: LkE -/
import Derived.Test.YtmfgjicfdjjihaaGreatDoorLxa41
namespace Go.Proofs.YtmfgjicfdjjihaaGreatDoor
abbrev lxa42o0 : Oper := { dst := some 6, op := Op.assign (.tmp 82), type := 24, pos := "ref.go:71", after := #[{ on := 26, ground := Ground.data }, { on := 26, ground := Ground.chain }, { on := 0, ground := Ground.phase }, { on := 1, ground := Ground.phase }, { on := 2, ground := Ground.phase }, { on := 3, ground := Ground.phase }, { on := 4, ground := Ground.phase }, { on := 5, ground := Ground.phase }, { on := 6, ground := Ground.phase }, { on := 7, ground := Ground.phase }, { on := 8, ground := Ground.phase }, { on := 9, ground := Ground.phase }, { on := 10, ground := Ground.phase }, { on := 11, ground := Ground.phase }, { on := 12, ground := Ground.phase }, { on := 13, ground := Ground.phase }, { on := 14, ground := Ground.phase }, { on := 15, ground := Ground.phase }, { on := 16, ground := Ground.phase }, { on := 17, ground := Ground.phase }, { on := 18, ground := Ground.phase }, { on := 19, ground := Ground.phase }, { on := 20, ground := Ground.phase }, { on := 21, ground := Ground.phase }, { on := 22, ground := Ground.phase }, { on := 23, ground := Ground.phase }, { on := 24, ground := Ground.phase }, { on := 25, ground := Ground.phase }, { on := 26, ground := Ground.phase }], guard := none }
abbrev lxa42o3 : Oper := { dst := some 82, op := Op.call { callee := Callee.builtin Builtin.append, args := #[.tmp 56, .tmp 81], argTypes := #[24, 24] }, type := 24, pos := "ref.go:71", after := #[{ on := 0, ground := Ground.data }, { on := 25, ground := Ground.data }], guard := none }
abbrev lxa42o5 : Oper := { dst := some 73, op := Op.binOp BinOp.mul 3 (.tmp 66) (.tmp 72) 3, type := 3, pos := "ref.go:71", after := #[{ on := 10, ground := Ground.data }, { on := 16, ground := Ground.data }], guard := none }
abbrev lxa42o6 : Oper := { dst := some 78, op := Op.binOp BinOp.add 3 (.tmp 73) (.tmp 77) 3, type := 3, pos := "ref.go:71", after := #[{ on := 17, ground := Ground.data }, { on := 21, ground := Ground.data }], guard := none }
abbrev lxa42o8 : Oper := { dst := some 79, op := Op.indexAddr 24 (.tmp 62) (.tmp 78), type := 0, pos := "ref.go:71", after := #[{ on := 6, ground := Ground.data }, { on := 22, ground := Ground.data }], guard := none }
abbrev lxa42o9 : Oper := { dst := some 81, op := Op.buildSlice 24 1 #[(0, .tmp 80)], type := 24, pos := "ref.go:71", after := #[{ on := 24, ground := Ground.data }], guard := none }
abbrev lxa42o11 : Oper := { dst := some 77, op := Op.load 3 (.tmp 76), type := 3, pos := "ref.go:71", after := #[{ on := 20, ground := Ground.data }], guard := none }
abbrev lxa42o12 : Oper := { dst := some 80, op := Op.load 3 (.tmp 79), type := 3, pos := "ref.go:71", after := #[{ on := 23, ground := Ground.data }], guard := none }
abbrev lxa42o13 : Oper := { dst := some 66, op := Op.load 3 (.tmp 65), type := 3, pos := "ref.go:71", after := #[{ on := 9, ground := Ground.data }], guard := none }
end Go.Proofs.YtmfgjicfdjjihaaGreatDoor
namespace Go.Proofs.YtmfgjicfdjjihaaGreatDoor
open Go.RowKit
set_option linter.unusedVariables false
set_option linter.unusedSimpArgs false
theorem cl_snoc (f : Nat → Nat) (n : Nat) : (List.range (n + 1)).map f = (List.range n).map f ++ [f n] := by rw [List.range_succ, List.map_append]; rfl
theorem cl_at (f : Nat → Nat) {n j : Nat} (h : j < n) : ((List.range n).map f)[j]? = some (f j) := by rw [List.getElem?_map, List.getElem?_range h]; rfl
set_option maxRecDepth 100000 in
set_option maxHeartbeats 32000000 in
theorem rlookup_lk (t : TR) (k : Ky) (w : World) (hok : t.ok w) (ko : k.ok) :
  Calls Tryz.prog 13 #[.agg t.v, .agg k.v] w fun e w' => e = .returned (.tuple #[.int .i64 (findA t.D t.X t.F k).1, .int .i64 (findA t.D t.X t.F k).2]) ∧ Below w.heap.size w w' := by
 have HOK : Hid (t.ok w) := hok
 have KC : Hid (∀ W, Below w.heap.size w W → Calls Tryz.prog 10 #[.agg t.v] W fun e w' => Tells e (TabR t.D t.X t.F) ∧ Below W.heap.size W w') := fun W hb => rcheck_lk t W (hok.low hb)
 have KK : Hid (∀ W, Calls Tryz.prog 15 #[.agg k.v] W fun e w' => e = .returned (.bool k.right) ∧ Below W.heap.size W w') := fun W => rrightKey_any k W ko
 have HNO : Hid (¬ (TabR t.D t.X t.F ∧ k.right = true) → findA t.D t.X t.F k = (0, 1)) := findA_no
 have HYS : Hid (TabR t.D t.X t.F → k.right = true → findA t.D t.X t.F k = (findT t.D t.X t.F k, 0)) := findA_yes
 obtain ⟨RR, hRR⟩ : ∃ R, findA t.D t.X t.F k = R := ⟨_, rfl⟩
 rw [hRR] at HNO HYS ⊢
 have KS : Hid (k.right = true → ∀ d : Nat, d < 7 → ∀ W, Calls Tryz.prog 32 #[.agg k.v, .int .i64 (d : Int)] W fun e w' => e = .returned (.tuple #[.agg (k.spot d).v, .bool true]) ∧ Below W.heap.size W w') := fun hk d hd W => by
  have := rspot_ck k (d : Int) W ko
  unfold spotR at this
  rw [if_pos ⟨hk, by omega, by omega⟩] at this
  simp only [Int.toNat_natCast] at this
  exact this
 have KD : Hid (TabR t.D t.X t.F → k.right = true → ∀ (d : Nat) (x : ChR), d < 7 → t.D[d]? = some x → ∀ W, x.ok W → Calls Tryz.prog 33 #[.agg x.v, .agg (k.spot d).v] W fun e w' => e = .returned (.tuple #[.int .i64 (clT t.D t.X k d : Int), .bool true]) ∧ clT t.D t.X k d < szN t.D t.X d ∧ Below W.heap.size W w') := fun hT hk d x hd hx W hx' => by
  have hr := hT.dim x (List.mem_of_getElem? hx)
  refine (rfind_ck _ _ _ _ _ _ _ _ _ (k.spot d) W hx'.small hx'.p hx'.i hx'.s (spot_ok ko hk d)).mono ?_
  rintro e w' ⟨hf, hbb⟩
  rcases hf with ⟨hn, _⟩ | ⟨_, v, rfl, hcl⟩
  ·exact absurd hr hn
  ·obtain ⟨rfl, h2⟩ := cl_dim hr hx hcl
   rw [clT_dim t.D t.X k hd, sz_dim hd hx]
   exact ⟨rfl, h2, hbb⟩
 obtain ⟨KV, hKV⟩ : ∃ KV, k.v = KV := ⟨_, rfl⟩
 have hsk : (Tryz.prog.info? 33).map (·.size) = some KV.size := by rw [← hKV]; show _ = some 11; kernel_rfl
 rw [hKV] at KK KS ⊢
 obtain ⟨kr, hkr⟩ : ∃ kr, k.right = kr := ⟨_, rfl⟩
 rw [hkr] at KK KS KD HNO HYS
 have hst : (Tryz.prog.info? 26).map (·.size) = some 3 := by kernel_rfl
 have hfs := hok.f.small
 have HD : Hid (RowD w t.da t.D) := hok.d
 have HX : Hid (RowX w t.xa t.X) := hok.x
 have HF : Hid (RowI w t.fa t.F) := hok.f
 obtain ⟨da, dc, D, xa, xc, X, fa, fc, F⟩ := t
 simp only at hfs HD HX HF HNO HYS KD KC
 have HV : Hid ((⟨da, dc, D, xa, xc, X, fa, fc, F⟩ : TR).v = #[.slice da D.length dc, .slice xa X.length xc, .slice fa F.length fc]) := rfl
 rw [HV.out] at KC ⊢
 obtain ⟨TV, hTV⟩ : ∃ TV, (#[.slice da D.length dc, .slice xa X.length xc, .slice fa F.length fc] : Array Value) = TV := ⟨_, rfl⟩
 have HTV : Hid ((#[.slice da D.length dc, .slice xa X.length xc, .slice fa F.length fc] : Array Value) = TV) := hTV
 have hst' : (Tryz.prog.info? 26).map (·.size) = some TV.size := by rw [← hTV]; exact hst
 rw [hTV] at KC ⊢
 obtain ⟨Q, hQ⟩ : ∃ Q, TabR D X F = Q := ⟨_, rfl⟩
 have HQ : Hid (Q → TabR D X F) := fun h => by rw [hQ]; exact h
 have HNQ : Hid (¬ (Q ∧ kr = true) → RR = (0, 1)) := by rw [← hQ]; exact HNO.out
 rw [hQ] at KC
 obtain ⟨W1, hW1⟩ : ∃ W1, w.alloc (.cells TV 26) = W1 := ⟨_, rfl⟩
 obtain ⟨W2, hW2⟩ : ∃ W2, W1.alloc (.cells KV 33) = W2 := ⟨_, rfl⟩
 have b2 := bel_al (bel_nw hW1) hW2
 have HB2 : Hid (Blk W2 w.heap.size 26 TV) := (blk_nw hW1).al hW2
 have HBK : Hid (Blk W2 W1.heap.size 33 KV) := blk_nw hW2
 have at2 := HB2.out.at_
 have K1 : Hid _ := KC.out W2 b2
 clear hok ko hRR hKV hkr hQ hTV HNO
 go_enter Tryz.func13, Tryz.ntmps13
 go_wp2_with (first
  | (refine wpList_load_at rfl _ _ rfl w.heap.size 0 (by rfl) _ at2 Tryz.underlying26 hst' ?_))
 refine Calls.mono K1.out ?_
 rintro e W3 ⟨⟨r, rfl, hr⟩, q3⟩
 have b3 := bel_tr b2 q3
 clear at2 K1 KC hW1 hW2
 cases r
 ·have HN : Hid (RR = (0, 1)) := HNQ.out (fun h => by have := hr.2 h.1; cases this)
  clear hr
  go_wp2
  exact bodyPost_ret (results_tmp2 Tryz.results13 _ _ _) rfl ⟨by rw [HN.out]; rfl, b3⟩
 have HTR : Hid (TabR D X F) := HQ.out (hr.1 rfl)
 have K2 : Hid _ := KK.out W3
 have atk := (HBK.out.kept q3).at_
 clear hr KK
 go_wp2_with (first
  | (refine wpList_load_at_w (by rfl) _ _ rfl W1.heap.size 0 (by rfl) _ atk Tryz.underlying33 hsk ?_))
 refine Calls.mono K2.out ?_
 rintro e W4 ⟨rfl, q4⟩
 have q24 := bel_tr q3 q4
 have b4 := bel_tr b2 q24
 clear atk K2 q4 q3 b3
 cases kr
 ·have HN : Hid (RR = (0, 1)) := HNQ.out (fun h => by cases h.2)
  go_wp2
  exact bodyPost_ret (results_tmp2 Tryz.results13 _ _ _) rfl ⟨by rw [HN.out]; rfl, b4⟩
 have HRR : Hid (RR = (findT D X F k, 0)) := HYS.out HTR.out rfl
 have KS' : Hid _ := KS.out rfl
 have KD' : Hid _ := KD.out HTR.out rfl
 have HDN : Hid (D.length = 7) := HTR.out.d7
 have HXN : Hid (X.length = 6) := HTR.out.x6
 obtain ⟨fn, hfn⟩ : ∃ fn, F.length = fn := ⟨_, rfl⟩
 have HFN : Hid (F.length = fn) := hfn
 have HTV7 : Hid (TV = #[.slice da 7 dc, .slice xa 6 xc, .slice fa fn fc]) := by rw [← HTV.out, HDN.out, HXN.out, hfn]; exact rfl
 rw [hfn] at hfs
 rw [HTV7.out] at HB2
 clear HTV hst' KS KD HYS HNQ hfn HTV7 HV
 go_wp2_with fail
 go_loopw [6, 7] (fun v6 i wr => ∃ (n : Nat) (qa : Option Addr) (qc : Nat), n ≤ 7 ∧ v6 = .slice qa n qc ∧ i = .int .i64 n ∧ Hid (OwnI wr W2.heap.size qa qc ((List.range n).map (clT D X k))) ∧ Hid (∀ j, j < n → clT D X k j < szN D X j) ∧ Below W2.heap.size W2 wr) (fun _ i _ => 7 - (intOf i).toNat)
 case atStart => exact ⟨0, none, 0, by omega, rfl, rfl, OwnI.nil _ _, fun j hj => by omega, q24⟩
 case round =>
  clear q24 b4
  obtain ⟨n, qa, qc, hn, rfl, rfl, HO, HC, qw⟩ := hrel
  have bw := bel_tr b2 qw
  by_cases hlt : n < 7
  ·have ik : (n : Int) < 7 := by omega
   have in0 : (0 : Int) ≤ (n : Int) := by omega
   have hw1 : IntKind.i64.wrap ((n : Int) + 1) = ((n + 1 : Nat) : Int) := by simp [IntKind.wrap, IntKind.bits, IntKind.signed]; omega
   have K1 : Hid _ := KS'.out n hlt wr
   obtain ⟨x, hx⟩ : ∃ x, D[n]? = some x := ⟨_, List.getElem?_eq_getElem (by rw [HDN.out]; exact hlt)⟩
   have KD2 : Hid _ := KD'.out n x hlt hx
   have atk := (HBK.out.kept qw).at_
   obtain ⟨⟨p0, p1, p2⟩, hp⟩ : ∃ p, k.spot n = p := ⟨_, rfl⟩
   rw [hp] at K1 KD2
   have hpv : Pt.v ⟨p0, p1, p2⟩ = #[.int .u64 p0, .int .u64 p1, .int .u64 p2] := rfl
   rw [hpv] at K1 KD2
   clear hp hpv
   go_wp2_with (first | (refine wpList_load_at rfl _ _ rfl W1.heap.size 0 (by rfl) _ atk Tryz.underlying33 hsk ?_))
   refine Calls.mono K1.out ?_
   rintro e V2 ⟨rfl, q2⟩
   obtain ⟨V3, hV3⟩ : ∃ V3, V2.alloc (.cells #[.int .u64 p0, .int .u64 p1, .int .u64 p2] 86) = V3 := ⟨_, rfl⟩
   have q3 := bel_al q2 hV3
   have bw3 := bel_tr bw q3
   have qw3 := bel_tr qw q3
   have HP3 : Hid (Blk V3 V2.heap.size 86 #[.int .u64 p0, .int .u64 p1, .int .u64 p2]) := blk_nw hV3
   have HB3 : Hid (Blk V3 w.heap.size 26 #[.slice da 7 dc, .slice xa 6 xc, .slice fa fn fc]) := HB2.out.kept qw3
   obtain ⟨bx, ox, ex, cx⟩ := (HD.out.low bw3).cells n x hx
   have HOX : Hid (x.ok V3) := (HD.out.low bw3).each x (List.mem_of_getElem? hx)
   have hsx := info_chR x
   have hsp : (Tryz.prog.info? 86).map (·.size) = some 3 := by kernel_rfl
   obtain ⟨XV, hXV⟩ : ∃ XV, x.v = XV := ⟨_, rfl⟩
   rw [hXV] at KD2 cx hsx
   have HCX' : Hid (CellsAt V3 bx (ox + n * 3) XV) := cx
   have HO3 : Hid (OwnI V3 W2.heap.size qa qc ((List.range n).map (clT D X k))) := HO.out.below q3
   subst ex
   clear K1 cx hXV hx q2 q3 atk HO qw bw
   go_wp2_with fail
   refine wp_region_noPanic ?_
   refine wp_region_held_drew (S := fun w'' => Below V3.heap.size V3 w'') (by kernel_rfl) (below_drew V3) (fun hHeld => ?_)
   refine qtk (i := 0) (oi := { dst := some 34, op := Op.fieldAddr 26 (.tmp 2) 0, type := 0, pos := "ref.go:66", after := #[], guard := none }) (v := (.pointer (some ⟨w.heap.size, 0, none⟩))) hHeld ?_ ?_
   ·intro w9 hSw
    try dsimp only at hSw
    go_simp
   try simp only [qpu]
   refine qtk (i := 1) (oi := { dst := some 35, op := Op.load 22 (.tmp 34), type := 22, pos := "ref.go:66", after := #[{ on := 0, ground := Ground.data }], guard := none }) (v := (.slice (some ⟨bx, ox, none⟩) 7 dc)) hHeld ?_ ?_
   ·intro w9 hSw
    try dsimp only at hSw
    have hcc := (HB3.out.kept hSw).cell 0 _ rfl
    go_simp
   try simp only [qpu]
   refine qtk (i := 2) (oi := { dst := some 36, op := Op.move (.tmp 7), type := 3, pos := "ref.go:66", after := #[], guard := none }) (v := (.int .i64 (n : Int))) hHeld ?_ ?_
   ·intro w9 hSw
    try dsimp only at hSw
    go_simp
   try simp only [qpu]
   refine qtk (i := 3) (oi := { dst := some 37, op := Op.indexAddr 22 (.tmp 35) (.tmp 36), type := 0, pos := "ref.go:66", after := #[{ on := 1, ground := Ground.data }, { on := 2, ground := Ground.data }], guard := none }) (v := (.pointer (some ⟨bx, ox + n * 3, none⟩))) hHeld ?_ ?_
   ·intro w9 hSw
    try dsimp only at hSw
    go_simp
   try simp only [qpu]
   refine qty (i := 4) (oi := { dst := some 38, op := Op.load 63 (.tmp 37), type := 63, pos := "ref.go:66", after := #[{ on := 3, ground := Ground.data }], guard := none }) (v := (.agg XV)) (yieldsIf_at (by rfl) _ _ rfl bx (ox + n * 3) (by rfl) _ (fun _ h => HCX'.out.below h) Tryz.underlying63 hsx) hHeld ?_
   try simp only [qpu]
   refine qty (i := 5) (oi := { dst := some 39, op := Op.load 86 (.tmp 8), type := 86, pos := "ref.go:66", after := #[], guard := none }) (v := (.agg #[.int .u64 p0, .int .u64 p1, .int .u64 p2])) (yieldsIf_at (by rfl) _ _ rfl V2.heap.size 0 (by rfl) _ (fun _ h => (HP3.out.kept h).at_) Tryz.underlying86 hsp) hHeld ?_
   try simp only [qpu]
   refine wpAnyH_ready (rs := [6]) (by kernel_rfl) (by simp) ?_
   refine AllReadyH.cons (o := { dst := some 40, op := Op.call { callee := Callee.value (.func 33), args := #[.tmp 38, .tmp 39], argTypes := #[63, 86] }, type := 44, pos := "ref.go:66", after := #[{ on := 4, ground := Ground.data }, { on := 5, ground := Ground.data }], guard := none }) rfl (fun K hK => ?_) AllReadyH.nil
   go_simp
   refine Calls.mono (KD2.out _ (HOX.out.low (below_drew V3))) ?_
   rintro e V4 ⟨rfl, hcl0, q4⟩
   have hcl : Hid (clT D X k n < szN D X n) := hcl0
   have q4w := bel_tr (below_drew V3) q4
   clear hcl0 q4
   refine hK.out _ _ q4w (fun hHeld => ?_)
   clear hK K
   try simp only [qpu]
   refine qtk (i := 7) (oi := { dst := some 33, op := Op.move (.tmp 40), type := 44, pos := "ref.go:66", after := #[{ on := 6, ground := Ground.data }], guard := none }) (v := (.tuple #[.int .i64 (clT D X k n : Int), .bool true])) hHeld ?_ ?_
   ·intro w9 hSw
    try dsimp only at hSw
    go_simp
   try simp only [qpu]
   refine qtk (i := 8) (oi := { dst := some 41, op := Op.extract (.tmp 33) 0, type := 3, pos := "ref.go:66", after := #[{ on := 7, ground := Ground.data }], guard := none }) (v := (.int .i64 (clT D X k n : Int))) hHeld ?_ ?_
   ·intro w9 hSw
    try dsimp only at hSw
    go_simp
   try simp only [qpu]
   refine qtk (i := 9) (oi := { dst := some 42, op := Op.extract (.tmp 33) 1, type := 4, pos := "ref.go:66", after := #[{ on := 7, ground := Ground.data }, { on := 10, ground := Ground.gcOnly Departure.lateStores }], guard := none }) (v := (.bool true)) hHeld ?_ ?_
   ·intro w9 hSw
    try dsimp only at hSw
    go_simp
   try simp only [qpu]
   refine qtk (i := 10) (oi := { dst := some 10, op := Op.assign (.tmp 41), type := 3, pos := "ref.go:66", after := #[{ on := 8, ground := Ground.data }, { on := 6, ground := Ground.chain }, { on := 0, ground := Ground.phase }, { on := 1, ground := Ground.phase }, { on := 2, ground := Ground.phase }, { on := 3, ground := Ground.phase }, { on := 4, ground := Ground.phase }, { on := 5, ground := Ground.phase }, { on := 6, ground := Ground.phase }, { on := 7, ground := Ground.phase }, { on := 8, ground := Ground.phase }, { on := 9, ground := Ground.textOnly Departure.lateStores }], guard := none }) (v := (.int .i64 (clT D X k n : Int))) hHeld ?_ ?_
   ·intro w9 hSw
    try dsimp only at hSw
    go_simp
   try simp only [qpu]
   refine qtk (i := 11) (oi := { dst := some 11, op := Op.assign (.tmp 42), type := 4, pos := "ref.go:66", after := #[{ on := 9, ground := Ground.data }, { on := 10, ground := Ground.chain }, { on := 0, ground := Ground.phase }, { on := 1, ground := Ground.phase }, { on := 2, ground := Ground.phase }, { on := 3, ground := Ground.phase }, { on := 4, ground := Ground.phase }, { on := 5, ground := Ground.phase }, { on := 6, ground := Ground.phase }, { on := 7, ground := Ground.phase }, { on := 8, ground := Ground.phase }, { on := 9, ground := Ground.phase }, { on := 10, ground := Ground.phase }], guard := none }) (v := (.bool true)) hHeld ?_ ?_
   ·intro w9 hSw
    try dsimp only at hSw
    go_simp
   try simp only [qpu]
   refine wpAnyH_done (by kernel_rfl) ?_ _
   refine NoPanic.normal ?_

   have qw4 := bel_tr qw3 q4w
   have HO4 : Hid (OwnI V4 W2.heap.size qa qc ((List.range n).map (clT D X k))) := HO3.out.below q4w
   have HC4 : Hid (∀ j, j < n + 1 → clT D X k j < szN D X j) := fun j hj => by
    by_cases e : j = n
    ·subst e; exact hcl.out
    ·exact HC.out j (by omega)
   have HSN : Hid ((List.range (n + 1)).map (clT D X k) = (List.range n).map (clT D X k) ++ [clT D X k n]) := cl_snoc _ n
   obtain ⟨m, hm⟩ : ∃ m, clT D X k n = m := ⟨_, rfl⟩
   rw [hm] at HSN ⊢
   obtain ⟨WL, hWL⟩ : ∃ WL, (List.range n).map (clT D X k) = WL := ⟨_, rfl⟩
   have HWL : Hid (WL.length = n) := (by rw [← hWL, List.length_map, List.length_range] : WL.length = n)
   rw [hWL] at HSN HO4
   obtain ⟨V5, hV5⟩ : ∃ V5, V4.alloc (.cells #[.int .i64 (m : Int)] 3) = V5 := ⟨_, rfl⟩
   have q5 := bel_nw hV5
   have qw5 := bel_tr qw4 q5
   obtain ⟨g, c', V6, hrun, ho, hg, hat, hb6⟩ := run_appI1 V5 24 W2.heap.size qa qc WL (HO4.out.below q5) V4.heap.size 1 m 3 (blk_nw hV5) (by rw [HWL.out]; omega) qw5.size
   rw [HWL.out] at hrun
   have HRr : Hid _ := hrun
   have HO6 : Hid (OwnI V6 W2.heap.size (some ⟨g, 0, none⟩) c' (WL ++ [m])) := ho
   have qw6 : Below W2.heap.size W2 V6 := qw5.trans hb6
   rw [← HSN.out] at HO6
   clear hrun ho hg hat hb6 q5 qw5 HO4 qw4 HC hm hWL
   go_wp2_with (refine wpList_rn rfl 24 _ _ rfl _ _ rfl rfl _ _ HRr.out ?_)
   exact ⟨⟨n + 1, some ⟨g, 0, none⟩, c', by omega, rfl, by first | rfl | (congr 1), HO6, HC4, qw6⟩, by simp only [intOf]; omega⟩
  ·have hn7 : n = 7 := by omega
   subst hn7
   rw [show ((7 : Nat) : Int) = 7 from rfl]
   clear hlt KS' KD' bw
   go_wp2_with fail
   go_loopw [6, 12] (fun v6 i wr => ∃ (n : Nat) (qa : Option Addr) (qc : Nat), n ≤ 6 ∧ v6 = .slice qa (7 + n) qc ∧ i = .int .i64 n ∧ Hid (OwnI wr W2.heap.size qa qc ((List.range (7 + n)).map (clT D X k))) ∧ Hid (∀ j, j < 7 + n → clT D X k j < szN D X j) ∧ Below W2.heap.size W2 wr) (fun _ i _ => 6 - (intOf i).toNat)
   case atStart => exact ⟨0, qa, qc, by omega, rfl, rfl, HO, HC, qw⟩
   case round =>
    clear HO HC qw
    obtain ⟨n, qa, qc, hn, rfl, rfl, HO, HC, qw⟩ := hrel
    have bw := bel_tr b2 qw
    by_cases hlt : n < 6
    ·have ik : (n : Int) < 6 := by omega
     have in0 : (0 : Int) ≤ (n : Int) := by omega
     have hw1 : IntKind.i64.wrap ((n : Int) + 1) = ((n + 1 : Nat) : Int) := by simp [IntKind.wrap, IntKind.bits, IntKind.signed]; omega
     obtain ⟨x, hx⟩ : ∃ x, X[n]? = some x := ⟨_, List.getElem?_eq_getElem (by rw [HXN.out]; exact hlt)⟩
     obtain ⟨hwd, hkl, hkg, hml⟩ := cl_crs (k := k) HTR.out hlt hx HC.out
     have okx := HX.out.each x (List.mem_of_getElem? hx)
     have hks := okx.i.small
     have hsl := sd_lt n hlt
     have HC8 : Hid (∀ j, j < 7 + (n + 1) → clT D X k j < szN D X j) := fun j hj => by
      by_cases e : j = 7 + n
      ·subst e; exact hml
      ·exact HC.out j (by omega)
     have K1 : Hid _ := rsides_any wr n hlt
     obtain ⟨P, hP⟩ : ∃ P, sdL n = P := ⟨_, rfl⟩
     obtain ⟨R, hR⟩ : ∃ R, sdR n = R := ⟨_, rfl⟩
     rw [hP, hR] at hsl hkl hkg K1
     rw [hR] at hwd
     obtain ⟨mL, hmL⟩ : ∃ m, clT D X k P = m := ⟨_, rfl⟩
     obtain ⟨mR, hmR⟩ : ∃ m, clT D X k R = m := ⟨_, rfl⟩
     obtain ⟨m, hm⟩ : ∃ m, clT D X k (7 + n) = m := ⟨_, rfl⟩
     obtain ⟨pb, hpb⟩ : ∃ m, szN D X R = m := ⟨_, rfl⟩
     have HSN : Hid ((List.range (7 + n + 1)).map (clT D X k) = (List.range (7 + n)).map (clT D X k) ++ [clT D X k (7 + n)]) := cl_snoc _ (7 + n)
     have HP1 : Hid (((List.range (7 + n)).map (clT D X k))[P]? = some mL) := by rw [← hmL]; exact cl_at _ hsl.1
     have HR1 : Hid (((List.range (7 + n)).map (clT D X k))[R]? = some mR) := by rw [← hmR]; exact cl_at _ hsl.2
     rw [hm] at HSN hkg
     rw [hmL] at hkl hkg
     rw [hmR] at hkl hkg
     rw [hpb] at hwd hkl hkg
     obtain ⟨mi, hmi⟩ : ∃ mi, mL * pb = mi := ⟨_, rfl⟩
     rw [hmi] at hkl hkg
     have hmul : IntKind.i64.wrap ((mL : Int) * (pb : Int)) = (mi : Int) := by
      have e : (mL : Int) * (pb : Int) = (mi : Int) := by rw [← hmi]; simp
      rw [e]
      exact wraps_i64 _ (by omega) (by omega)
     have hadd : IntKind.i64.wrap ((mi : Int) + (mR : Int)) = ((mi + mR : Nat) : Int) := by rw [wraps_i64 _ (by omega) (by omega)]; omega
     obtain ⟨bk, ok_, ek, hck⟩ := okx.i.cells (by omega)
     have hckm := hck (mi + mR) hkl
     rw [hkg] at hckm
     have HCK : Hid (w.cell? ⟨bk, ok_ + (mi + mR), none⟩ = some (.int .i64 (m : Int))) := hckm
     obtain ⟨WL, hWL⟩ : ∃ WL, (List.range (7 + n)).map (clT D X k) = WL := ⟨_, rfl⟩
     have HWL : Hid (WL.length = 7 + n) := (by rw [← hWL, List.length_map, List.length_range] : WL.length = 7 + n)
     rw [hWL] at HSN HO HP1 HR1
     obtain ⟨l2, hl2⟩ : ∃ l2, x.K.length = l2 := ⟨_, rfl⟩
     rw [hl2] at hkl
     have hklI : ((mi + mR : Nat) : Int) < (l2 : Int) := by omega
     have hk0I : (0 : Int) ≤ ((mi + mR : Nat) : Int) := by omega
     have hklI' : (mi : Int) + (mR : Int) < (l2 : Int) := by omega
     have hk0I' : (0 : Int) ≤ (mi : Int) + (mR : Int) := by omega
     have hkt : ((mi : Int) + (mR : Int)).toNat = mi + mR := by omega
     have hPn' : (P : Int) < 7 + (n : Int) := by omega
     have hRn' : (R : Int) < 7 + (n : Int) := by omega
     have hPn : (P : Int) < ((7 + n : Nat) : Int) := by omega
     have hRn : (R : Int) < ((7 + n : Nat) : Int) := by omega
     have hP0 : (0 : Int) ≤ (P : Int) := by omega
     have hR0 : (0 : Int) ≤ (R : Int) := by omega
     obtain ⟨bx, ox, ex, cx⟩ := HX.out.cells n x hx
     have hx0 := cx.2 0 (.int .i64 (pb : Int)) (by show some (Value.int .i64 x.wd) = _; rw [hwd])
     have hx1 := cx.2 1 (.slice (some ⟨bk, ok_, none⟩) l2 x.c2) (by show some (Value.slice x.a2 x.K.length x.c2) = _; rw [ek, hl2])
     rw [Nat.add_zero] at hx0
     have HX0 : Hid (w.cell? ⟨bx, ox + n * 3, none⟩ = some (.int .i64 (pb : Int))) := hx0
     have HX1 : Hid (w.cell? ⟨bx, ox + n * 3 + 1, none⟩ = some (.slice (some ⟨bk, ok_, none⟩) l2 x.c2)) := hx1
     generalize x.c2 = y2 at HX1
     have HPR : Hid (P < 7 + n ∧ R < 7 + n ∧ n < 6) := ⟨hsl.1, hsl.2, hlt⟩
     clear hx okx hks hwd hkl hkg hml hsl hP hR hmL hmR hm hpb hmi ek hck hckm hx0 hx1 cx hl2 hWL
     go_wp2_with fail
     refine Calls.mono K1.out ?_
     rintro e V4 ⟨rfl, q4⟩
     have qw4 := bel_tr qw q4
     have bw4 := bel_tr b2 qw4
     have HO4 : Hid (OwnI V4 W2.heap.size qa qc WL) := HO.out.below q4
     obtain ⟨ga, hga, hfP, hfR⟩ : ∃ ga, qa = some ⟨ga, 0, none⟩ ∧ (∀ W, Below V4.heap.size V4 W → W.cell? ⟨ga, P, none⟩ = some (.int .i64 (mL : Int))) ∧ (∀ W, Below V4.heap.size V4 W → W.cell? ⟨ga, R, none⟩ = some (.int .i64 (mR : Int))) := by
      have h0 : WL.length ≤ 17592186044416 := by rw [HWL.out]; have := HPR.out; omega
      obtain ⟨g1, _, e1, _⟩ := (HO4.out.row h0).cells (by rw [List.length_map, HWL.out]; omega)
      obtain ⟨g2, cap, e2, _⟩ := World.ownsRow.form HO4.out (by rw [HWL.out]; omega)
      cases e2
      refine ⟨g2, rfl, fun W hb => ?_, fun W hb => ?_⟩
      ·obtain ⟨g3, o3, e3, h3⟩ := ((HO4.out.below hb).row h0).cells (by rw [List.length_map, HWL.out]; omega)
       cases e3
       have := h3 P (by rw [List.length_map, HWL.out]; exact HPR.out.1)
       rw [Nat.zero_add, List.getD_eq_getElem?_getD, List.getElem?_map, HP1.out] at this
       exact this
      ·obtain ⟨g3, o3, e3, h3⟩ := ((HO4.out.below hb).row h0).cells (by rw [List.length_map, HWL.out]; omega)
       cases e3
       have := h3 R (by rw [List.length_map, HWL.out]; exact HPR.out.2.1)
       rw [Nat.zero_add, List.getD_eq_getElem?_getD, List.getElem?_map, HR1.out] at this
       exact this
     have HfP : Hid (∀ W, Below V4.heap.size V4 W → W.cell? ⟨ga, P, none⟩ = some (.int .i64 (mL : Int))) := hfP
     have HfR : Hid (∀ W, Below V4.heap.size V4 W → W.cell? ⟨ga, R, none⟩ = some (.int .i64 (mR : Int))) := hfR
     have HB4 : Hid (Blk V4 w.heap.size 26 #[.slice da 7 dc, .slice (some ⟨bx, ox, none⟩) 6 xc, .slice fa fn fc]) := by
      have := HB2.out.kept qw4
      rw [ex] at this
      exact this
     have HLT : Hid (w.heap.size < W2.heap.size) := HB2.out.lt
     subst hga
     clear hfP hfR K1 HO qw bw q4 ex
     go_wp2_with fail
     have hSB : Below W2.heap.size V4 V4.drew := (below_drew V4).mono qw4.size
     refine wp_region_noPanic ?_
     refine wp_region_held_drew (S := fun w'' => Below W2.heap.size V4 w'') (by kernel_rfl) hSB (fun hHeld => ?_)
     refine qtk (i := 0) (oi := { dst := some 56, op := Op.move (.tmp 6), type := 24, pos := "ref.go:71", after := #[], guard := none }) (v := (.slice (some ⟨ga, 0, none⟩) (7 + n) qc)) hHeld ?_ ?_
     ·intro w9 hSw
      try dsimp only at hSw
      go_simp
     try simp only [qpu]
     refine qtk (i := 1) (oi := { dst := some 57, op := Op.fieldAddr 26 (.tmp 2) 1, type := 0, pos := "ref.go:71", after := #[], guard := none }) (v := (.pointer (some ⟨w.heap.size, 1, none⟩))) hHeld ?_ ?_
     ·intro w9 hSw
      try dsimp only at hSw
      go_simp
     try simp only [qpu]
     refine qtk (i := 2) (oi := { dst := some 58, op := Op.load 23 (.tmp 57), type := 23, pos := "ref.go:71", after := #[{ on := 1, ground := Ground.data }], guard := none }) (v := (.slice (some ⟨bx, ox, none⟩) 6 xc)) hHeld ?_ ?_
     ·intro w9 hSw
      try dsimp only at hSw
      have hcc := (HB4.out.below hSw HLT.out).cell 1 _ rfl
      go_simp
     try simp only [qpu]
     refine qtk (i := 3) (oi := { dst := some 59, op := Op.move (.tmp 12), type := 3, pos := "ref.go:71", after := #[], guard := none }) (v := (.int .i64 (n : Int))) hHeld ?_ ?_
     ·intro w9 hSw
      try dsimp only at hSw
      go_simp
     try simp only [qpu]
     refine qtk (i := 4) (oi := { dst := some 60, op := Op.indexAddr 23 (.tmp 58) (.tmp 59), type := 0, pos := "ref.go:71", after := #[{ on := 2, ground := Ground.data }, { on := 3, ground := Ground.data }], guard := none }) (v := (.pointer (some ⟨bx, ox + n * 3, none⟩))) hHeld ?_ ?_
     ·intro w9 hSw
      try dsimp only at hSw
      go_simp
     try simp only [qpu]
     refine qtk (i := 5) (oi := { dst := some 61, op := Op.fieldAddr 60 (.tmp 60) 1, type := 0, pos := "ref.go:71", after := #[{ on := 4, ground := Ground.data }], guard := none }) (v := (.pointer (some ⟨bx, ox + n * 3 + 1, none⟩))) hHeld ?_ ?_
     ·intro w9 hSw
      try dsimp only at hSw
      go_simp
     try simp only [qpu]
     refine qtk (i := 6) (oi := { dst := some 62, op := Op.load 24 (.tmp 61), type := 24, pos := "ref.go:71", after := #[{ on := 5, ground := Ground.data }], guard := none }) (v := (.slice (some ⟨bk, ok_, none⟩) l2 y2)) hHeld ?_ ?_
     ·intro w9 hSw
      try dsimp only at hSw
      have hcc := (kept (bel_tr b2 (qw4.trans hSw)) HX1.out)
      go_simp
     try simp only [qpu]
     refine qtk (i := 7) (oi := { dst := some 63, op := Op.move (.tmp 6), type := 24, pos := "ref.go:71", after := #[], guard := none }) (v := (.slice (some ⟨ga, 0, none⟩) (7 + n) qc)) hHeld ?_ ?_
     ·intro w9 hSw
      try dsimp only at hSw
      go_simp
     try simp only [qpu]
     refine qtk (i := 8) (oi := { dst := some 64, op := Op.move (.tmp 13), type := 3, pos := "ref.go:71", after := #[], guard := none }) (v := (.int .i64 (P : Int))) hHeld ?_ ?_
     ·intro w9 hSw
      try dsimp only at hSw
      go_simp
     try simp only [qpu]
     refine qtk (i := 9) (oi := { dst := some 65, op := Op.indexAddr 24 (.tmp 63) (.tmp 64), type := 0, pos := "ref.go:71", after := #[{ on := 7, ground := Ground.data }, { on := 8, ground := Ground.data }], guard := none }) (v := (.pointer (some ⟨ga, P, none⟩))) hHeld ?_ ?_
     ·intro w9 hSw
      try dsimp only at hSw
      go_simp
     try simp only [qpu]
     refine qtk (i := 11) (oi := { dst := some 67, op := Op.fieldAddr 26 (.tmp 2) 1, type := 0, pos := "ref.go:71", after := #[], guard := none }) (v := (.pointer (some ⟨w.heap.size, 1, none⟩))) hHeld ?_ ?_
     ·intro w9 hSw
      try dsimp only at hSw
      go_simp
     try simp only [qpu]
     refine qtk (i := 12) (oi := { dst := some 68, op := Op.load 23 (.tmp 67), type := 23, pos := "ref.go:71", after := #[{ on := 11, ground := Ground.data }], guard := none }) (v := (.slice (some ⟨bx, ox, none⟩) 6 xc)) hHeld ?_ ?_
     ·intro w9 hSw
      try dsimp only at hSw
      have hcc := (HB4.out.below hSw HLT.out).cell 1 _ rfl
      go_simp
     try simp only [qpu]
     refine qtk (i := 13) (oi := { dst := some 69, op := Op.move (.tmp 12), type := 3, pos := "ref.go:71", after := #[], guard := none }) (v := (.int .i64 (n : Int))) hHeld ?_ ?_
     ·intro w9 hSw
      try dsimp only at hSw
      go_simp
     try simp only [qpu]
     refine qtk (i := 14) (oi := { dst := some 70, op := Op.indexAddr 23 (.tmp 68) (.tmp 69), type := 0, pos := "ref.go:71", after := #[{ on := 12, ground := Ground.data }, { on := 13, ground := Ground.data }], guard := none }) (v := (.pointer (some ⟨bx, ox + n * 3, none⟩))) hHeld ?_ ?_
     ·intro w9 hSw
      try dsimp only at hSw
      go_simp
     try simp only [qpu]
     refine qtk (i := 15) (oi := { dst := some 71, op := Op.fieldAddr 60 (.tmp 70) 0, type := 0, pos := "ref.go:71", after := #[{ on := 14, ground := Ground.data }], guard := none }) (v := (.pointer (some ⟨bx, ox + n * 3, none⟩))) hHeld ?_ ?_
     ·intro w9 hSw
      try dsimp only at hSw
      go_simp
     try simp only [qpu]
     refine qtk (i := 16) (oi := { dst := some 72, op := Op.load 3 (.tmp 71), type := 3, pos := "ref.go:71", after := #[{ on := 15, ground := Ground.data }], guard := none }) (v := (.int .i64 (pb : Int))) hHeld ?_ ?_
     ·intro w9 hSw
      try dsimp only at hSw
      have hcc := (kept (bel_tr b2 (qw4.trans hSw)) HX0.out)
      go_simp
     try simp only [qpu]
     refine qtk (i := 18) (oi := { dst := some 74, op := Op.move (.tmp 6), type := 24, pos := "ref.go:71", after := #[], guard := none }) (v := (.slice (some ⟨ga, 0, none⟩) (7 + n) qc)) hHeld ?_ ?_
     ·intro w9 hSw
      try dsimp only at hSw
      go_simp
     try simp only [qpu]
     refine qtk (i := 19) (oi := { dst := some 75, op := Op.move (.tmp 14), type := 3, pos := "ref.go:71", after := #[], guard := none }) (v := (.int .i64 (R : Int))) hHeld ?_ ?_
     ·intro w9 hSw
      try dsimp only at hSw
      go_simp
     try simp only [qpu]
     refine qtk (i := 20) (oi := { dst := some 76, op := Op.indexAddr 24 (.tmp 74) (.tmp 75), type := 0, pos := "ref.go:71", after := #[{ on := 18, ground := Ground.data }, { on := 19, ground := Ground.data }], guard := none }) (v := (.pointer (some ⟨ga, R, none⟩))) hHeld ?_ ?_
     ·intro w9 hSw
      try dsimp only at hSw
      go_simp
     try simp only [qpu]
     refine wpAnyH_ready (rs := [10, 21]) (by kernel_rfl) (by simp) ?_
     refine AllReadyH.cons (o := lxa42o13) rfl (fun K hK => ?_) (AllReadyH.cons (o := lxa42o11) rfl (fun K hK => ?_) AllReadyH.nil)
     ·have hcc := HfP.out _ (below_drew V4)
      go_simp
      refine hK.out _ _ hSB (fun hHeld => ?_)
      clear hK K hcc
      try simp only [qpu]
      refine qtk (i := 17) (oi := lxa42o5) (v := (.int .i64 (mi : Int))) hHeld ?_ ?_
      ·intro w9 hSw
       try dsimp only at hSw
       go_simp
      try simp only [qpu]
      refine wpAnyH_ready (rs := [21]) (by kernel_rfl) (by simp) ?_
      refine AllReadyH.cons (o := lxa42o11) rfl (fun K hK => ?_) AllReadyH.nil
      have hcc := HfR.out _ (below_drew V4)
      go_simp
      refine hK.out _ _ hSB (fun hHeld => ?_)
      clear hK K hcc
      try simp only [qpu]
      refine qtk (i := 22) (oi := lxa42o6) (v := (.int .i64 ((mi + mR : Nat) : Int))) hHeld ?_ ?_
      ·intro w9 hSw
       try dsimp only at hSw
       go_simp
      try simp only [qpu]
      refine qtk (i := 23) (oi := lxa42o8) (v := (.pointer (some ⟨bk, ok_ + (mi + mR), none⟩))) hHeld ?_ ?_
      ·intro w9 hSw
       try dsimp only at hSw
       go_simp
      try simp only [qpu]
      refine qtk (i := 24) (oi := lxa42o12) (v := (.int .i64 (m : Int))) hHeld ?_ ?_
      ·intro w9 hSw
       try dsimp only at hSw
       have hcc := (kept (bel_tr b2 (qw4.trans hSw)) HCK.out)
       go_simp
      try simp only [qpu]
      refine wpAnyH_ready (rs := [25]) (by kernel_rfl) (by simp) ?_
      refine AllReadyH.cons (o := lxa42o9) rfl (fun K hK => ?_) AllReadyH.nil
      obtain ⟨V5, hV5⟩ : ∃ V5, V4.drew.alloc (.cells #[.int .i64 (m : Int)] 3) = V5 := ⟨_, rfl⟩
      have q5 := bel_nw hV5
      have q45 := bel_tr (below_drew V4) q5
      have hS5 : Below W2.heap.size V4 V5 := q45.mono qw4.size
      go_simp
      refine hK.out _ _ hS5 (fun hHeld => ?_)
      clear hK K
      try simp only [qpu]
      refine wpAnyH_ready (rs := [26]) (by kernel_rfl) (by simp) ?_
      refine AllReadyH.cons (o := lxa42o3) rfl (fun K hK => ?_) AllReadyH.nil
      obtain ⟨g6, c6, V6, hrun, ho, hg, hat, hb6⟩ := run_appI1 V5 24 W2.heap.size (some ⟨ga, 0, none⟩) qc WL (HO4.out.below q45) V4.drew.heap.size 1 m 3 (blk_nw hV5) (by rw [HWL.out]; have := HPR.out; omega) (qw4.trans hS5).size
      rw [HWL.out] at hrun
      have HRr : Hid _ := hrun
      have HO6 : Hid (OwnI V6 W2.heap.size (some ⟨g6, 0, none⟩) c6 (WL ++ [m])) := ho
      have hS6 : Below W2.heap.size V4 V6 := hS5.trans hb6
      rw [← HSN.out] at HO6
      clear hrun ho hg hat
      refine step_rn rfl 24 _ _ rfl _ _ rfl rfl _ _ HRr.out ?_
      refine hK.out _ _ hS6 (fun hHeld => ?_)
      clear hK K
      try simp only [qpu]
      refine qtk (i := 27) (oi := lxa42o0) (v := (.slice (some ⟨g6, 0, none⟩) (7 + n + 1) c6)) hHeld ?_ ?_
      ·intro w9 hSw
       try dsimp only at hSw
       go_simp
      try simp only [qpu]
      refine wpAnyH_done (by kernel_rfl) ?_ _
      refine NoPanic.normal ?_
      have qw6 := qw4.trans hS6
      clear HRr hS5 q45 q5 hV5 hSB hS6 hb6
      go_wp2
      exact ⟨⟨n + 1, some ⟨g6, 0, none⟩, c6, by omega, rfl, by first | rfl | (congr 1), HO6, HC8, qw6⟩, by simp only [intOf]; omega⟩
     ·have hcc := HfR.out _ (below_drew V4)
      go_simp
      refine hK.out _ _ hSB (fun hHeld => ?_)
      clear hK K hcc
      try simp only [qpu]
      refine wpAnyH_ready (rs := [10]) (by kernel_rfl) (by simp) ?_
      refine AllReadyH.cons (o := lxa42o13) rfl (fun K hK => ?_) AllReadyH.nil
      have hcc := HfP.out _ (below_drew V4)
      go_simp
      refine hK.out _ _ hSB (fun hHeld => ?_)
      clear hK K hcc
      try simp only [qpu]
      refine qtk (i := 17) (oi := lxa42o5) (v := (.int .i64 (mi : Int))) hHeld ?_ ?_
      ·intro w9 hSw
       try dsimp only at hSw
       go_simp
      try simp only [qpu]
      refine qtk (i := 22) (oi := lxa42o6) (v := (.int .i64 ((mi + mR : Nat) : Int))) hHeld ?_ ?_
      ·intro w9 hSw
       try dsimp only at hSw
       go_simp
      try simp only [qpu]
      refine qtk (i := 23) (oi := lxa42o8) (v := (.pointer (some ⟨bk, ok_ + (mi + mR), none⟩))) hHeld ?_ ?_
      ·intro w9 hSw
       try dsimp only at hSw
       go_simp
      try simp only [qpu]
      refine qtk (i := 24) (oi := lxa42o12) (v := (.int .i64 (m : Int))) hHeld ?_ ?_
      ·intro w9 hSw
       try dsimp only at hSw
       have hcc := (kept (bel_tr b2 (qw4.trans hSw)) HCK.out)
       go_simp
      try simp only [qpu]
      refine wpAnyH_ready (rs := [25]) (by kernel_rfl) (by simp) ?_
      refine AllReadyH.cons (o := lxa42o9) rfl (fun K hK => ?_) AllReadyH.nil
      obtain ⟨V5, hV5⟩ : ∃ V5, V4.drew.alloc (.cells #[.int .i64 (m : Int)] 3) = V5 := ⟨_, rfl⟩
      have q5 := bel_nw hV5
      have q45 := bel_tr (below_drew V4) q5
      have hS5 : Below W2.heap.size V4 V5 := q45.mono qw4.size
      go_simp
      refine hK.out _ _ hS5 (fun hHeld => ?_)
      clear hK K
      try simp only [qpu]
      refine wpAnyH_ready (rs := [26]) (by kernel_rfl) (by simp) ?_
      refine AllReadyH.cons (o := lxa42o3) rfl (fun K hK => ?_) AllReadyH.nil
      obtain ⟨g6, c6, V6, hrun, ho, hg, hat, hb6⟩ := run_appI1 V5 24 W2.heap.size (some ⟨ga, 0, none⟩) qc WL (HO4.out.below q45) V4.drew.heap.size 1 m 3 (blk_nw hV5) (by rw [HWL.out]; have := HPR.out; omega) (qw4.trans hS5).size
      rw [HWL.out] at hrun
      have HRr : Hid _ := hrun
      have HO6 : Hid (OwnI V6 W2.heap.size (some ⟨g6, 0, none⟩) c6 (WL ++ [m])) := ho
      have hS6 : Below W2.heap.size V4 V6 := hS5.trans hb6
      rw [← HSN.out] at HO6
      clear hrun ho hg hat
      refine step_rn rfl 24 _ _ rfl _ _ rfl rfl _ _ HRr.out ?_
      refine hK.out _ _ hS6 (fun hHeld => ?_)
      clear hK K
      try simp only [qpu]
      refine qtk (i := 27) (oi := lxa42o0) (v := (.slice (some ⟨g6, 0, none⟩) (7 + n + 1) c6)) hHeld ?_ ?_
      ·intro w9 hSw
       try dsimp only at hSw
       go_simp
      try simp only [qpu]
      refine wpAnyH_done (by kernel_rfl) ?_ _
      refine NoPanic.normal ?_
      have qw6 := qw4.trans hS6
      clear HRr hS5 q45 q5 hV5 hSB hS6 hb6
      go_wp2
      exact ⟨⟨n + 1, some ⟨g6, 0, none⟩, c6, by omega, rfl, by first | rfl | (congr 1), HO6, HC8, qw6⟩, by simp only [intOf]; omega⟩

    ·have hn6 : n = 6 := by omega
     subst hn6
     rw [show ((6 : Nat) : Int) = 6 from rfl]
     have hfl : clT D X k 12 < fn := by rw [← HFN.out, HTR.out.fl]; exact HC.out 12 (by omega)
     have hft : F.getD (clT D X k 12) 0 = findT D X F k := rfl
     obtain ⟨bf, of_, ef, hcf⟩ := HF.out.cells (by rw [HFN.out]; omega)
     have hcfm := hcf (clT D X k 12) (by rw [HFN.out]; exact hfl)
     rw [hft] at hcfm
     obtain ⟨FT, hFT⟩ : ∃ FT, findT D X F k = FT := ⟨_, rfl⟩
     rw [hFT] at HRR hcfm
     obtain ⟨g2, cap, e2, _⟩ := World.ownsRow.form HO.out (by simp)
     obtain ⟨g3, o3, e3, h3⟩ := (HO.out.row (by simp)).cells (by simp)
     cases e2
     cases e3
     have hatm := h3 12 (by simp)
     rw [Nat.zero_add, List.getD_eq_getElem?_getD, List.getElem?_map, cl_at _ (by omega : 12 < 7 + 6)] at hatm
     simp only [Option.map_some, Option.getD_some] at hatm
     obtain ⟨m, hm⟩ : ∃ m, clT D X k 12 = m := ⟨_, rfl⟩
     rw [hm] at hfl hcfm hatm
     have HAT : Hid (wr.cell? ⟨g2, 12, none⟩ = some (.int .i64 (m : Int))) := hatm
     have HCF : Hid (w.cell? ⟨bf, of_ + m, none⟩ = some (.int .i64 FT)) := hcfm
     have hflI : (m : Int) < (fn : Int) := by omega
     have hf0I : (0 : Int) ≤ (m : Int) := by omega
     have HBw : Hid (Blk wr w.heap.size 26 #[.slice da 7 dc, .slice xa 6 xc, .slice (some ⟨bf, of_, none⟩) fn fc]) := by
      have := HB2.out.kept qw
      rw [ef] at this
      exact this
     clear hcf hm hft h3 hatm hcfm hFT HC HO ef
     go_wp2_with fail
     refine wp_region_noPanic ?_
     refine wp_region_held_drew (S := fun w'' => Below wr.heap.size wr w'') (by kernel_rfl) (below_drew wr) (fun hHeld => ?_)
     refine qtk (i := 0) (oi := { dst := some 83, op := Op.fieldAddr 26 (.tmp 2) 2, type := 0, pos := "ref.go:73", after := #[], guard := none }) (v := (.pointer (some ⟨w.heap.size, 2, none⟩))) hHeld ?_ ?_
     ·intro w9 hSw
      try dsimp only at hSw
      go_simp
     try simp only [qpu]
     refine qtk (i := 1) (oi := { dst := some 84, op := Op.load 24 (.tmp 83), type := 24, pos := "ref.go:73", after := #[{ on := 0, ground := Ground.data }], guard := none }) (v := (.slice (some ⟨bf, of_, none⟩) fn fc)) hHeld ?_ ?_
     ·intro w9 hSw
      try dsimp only at hSw
      have hcc := (HBw.out.kept hSw).cell 2 _ rfl
      go_simp
     try simp only [qpu]
     refine qtk (i := 2) (oi := { dst := some 85, op := Op.move (.tmp 6), type := 24, pos := "ref.go:73", after := #[], guard := none }) (v := (.slice (some ⟨g2, 0, none⟩) 13 qc)) hHeld ?_ ?_
     ·intro w9 hSw
      try dsimp only at hSw
      go_simp
     try simp only [qpu]
     refine qtk (i := 3) (oi := { dst := some 86, op := Op.indexAddr 24 (.tmp 85) (.const (.int .i64 12)), type := 0, pos := "ref.go:73", after := #[{ on := 2, ground := Ground.data }], guard := none }) (v := (.pointer (some ⟨g2, 12, none⟩))) hHeld ?_ ?_
     ·intro w9 hSw
      try dsimp only at hSw
      go_simp
     try simp only [qpu]
     refine qtk (i := 4) (oi := { dst := some 87, op := Op.load 3 (.tmp 86), type := 3, pos := "ref.go:73", after := #[{ on := 3, ground := Ground.data }], guard := none }) (v := (.int .i64 (m : Int))) hHeld ?_ ?_
     ·intro w9 hSw
      try dsimp only at hSw
      have hcc := kept hSw HAT.out
      go_simp
     try simp only [qpu]
     refine qtk (i := 5) (oi := { dst := some 88, op := Op.indexAddr 24 (.tmp 84) (.tmp 87), type := 0, pos := "ref.go:73", after := #[{ on := 1, ground := Ground.data }, { on := 4, ground := Ground.data }], guard := none }) (v := (.pointer (some ⟨bf, of_ + m, none⟩))) hHeld ?_ ?_
     ·intro w9 hSw
      try dsimp only at hSw
      go_simp
     try simp only [qpu]
     refine qtk (i := 6) (oi := { dst := some 89, op := Op.load 3 (.tmp 88), type := 3, pos := "ref.go:73", after := #[{ on := 5, ground := Ground.data }], guard := none }) (v := (.int .i64 FT)) hHeld ?_ ?_
     ·intro w9 hSw
      try dsimp only at hSw
      have hcc := kept (bel_tr bw hSw) HCF.out
      go_simp
     try simp only [qpu]
     refine qtk (i := 7) (oi := { dst := some 4, op := Op.assign (.tmp 89), type := 3, pos := "ref.go:73", after := #[{ on := 6, ground := Ground.data }, { on := 0, ground := Ground.phase }, { on := 1, ground := Ground.phase }, { on := 2, ground := Ground.phase }, { on := 3, ground := Ground.phase }, { on := 4, ground := Ground.phase }, { on := 5, ground := Ground.phase }, { on := 6, ground := Ground.phase }], guard := none }) (v := (.int .i64 FT)) hHeld ?_ ?_
     ·intro w9 hSw
      try dsimp only at hSw
      go_simp
     try simp only [qpu]
     refine qtk (i := 8) (oi := { dst := some 5, op := Op.assign (.const (.int .i64 0)), type := 3, pos := "ref.go:73", after := #[{ on := 7, ground := Ground.chain }, { on := 0, ground := Ground.phase }, { on := 1, ground := Ground.phase }, { on := 2, ground := Ground.phase }, { on := 3, ground := Ground.phase }, { on := 4, ground := Ground.phase }, { on := 5, ground := Ground.phase }, { on := 6, ground := Ground.phase }, { on := 7, ground := Ground.phase }], guard := none }) (v := (.int .i64 0)) hHeld ?_ ?_
     ·intro w9 hSw
      try dsimp only at hSw
      go_simp
     try simp only [qpu]
     refine wpAnyH_done (by kernel_rfl) ?_ _
     refine NoPanic.normal ?_

     have bw9 := bel_tr bw (below_drew wr)
     go_wp2
     exact bodyPost_ret (results_tmp2 Tryz.results13 _ _ _) rfl ⟨by rw [HRR.out]; rfl, bw9⟩
end Go.Proofs.YtmfgjicfdjjihaaGreatDoor
