/- Texts joined: RfK CkY -/
import Derived.Test.YtmfgjicfdjjihaaGreatDoorLxa32
namespace Go.Proofs.YtmfgjicfdjjihaaGreatDoor
open Go.RowKit
set_option linter.unusedVariables false
set_option linter.unusedSimpArgs false
set_option maxRecDepth 100000 in
set_option maxHeartbeats 8000000 in
theorem rcompile_arg (a : Option Addr) (c : Nat) (l : List Rl) (n : Nat) (budget : Int) (w : World) (h : ¬ (0 ≤ budget ∧ budget ≤ 4096)) (B : Nat) :
  Calls Tryz.prog 18 #[.slice a n c, .int .i64 budget] w fun e w' => CompGot l 1 B e w' ∧ Below w.heap.size w w' := by
 obtain ⟨W1, hW1⟩ : ∃ W1, w.alloc (.cells zc3 26) = W1 := ⟨_, rfl⟩
 have b1 := bel_nw hW1
 have RB := blk_nw hW1
 by_cases h0 : budget < 0
 ·clear h
  go_enter Tryz.func18, Tryz.ntmps18
  go_wp2_with (refine wpList_st rfl 26 _ _ rfl w.heap.size zc3 zc3 (by rfl) (by rfl) RB (by kernel_rfl) rfl (by kernel_rfl) ?_)
  exact ret_cell_tmp (k := 4) (j := 5) Tryz.f18 (by kernel_rfl) (RB.set _) Tryz.underlying26 (by kernel_rfl) (by rfl) (by rfl) rfl ⟨got_no (by decide) _, below_setRow b1 (Nat.le_refl _) _⟩
 ·have h1 : 4096 < budget := by omega
  have h2 : 0 ≤ budget := by omega
  clear h h0
  go_enter Tryz.func18, Tryz.ntmps18
  go_wp2_with (refine wpList_st rfl 26 _ _ rfl w.heap.size zc3 zc3 (by rfl) (by rfl) RB (by kernel_rfl) rfl (by kernel_rfl) ?_)
  exact ret_cell_tmp (k := 4) (j := 5) Tryz.f18 (by kernel_rfl) (RB.set _) Tryz.underlying26 (by kernel_rfl) (by rfl) (by rfl) rfl ⟨got_no (by decide) _, below_setRow b1 (Nat.le_refl _) _⟩
set_option maxRecDepth 100000 in
set_option maxHeartbeats 8000000 in
theorem rcompile_cut (a : Option Addr) (c : Nat) (l : List Rl) (budget : Int) (w : World) (hrow : RowR w a l) (he : errC l 0 ≠ 0) (h : 0 ≤ budget ∧ budget ≤ 4096) (B : Nat) :
  Calls Tryz.prog 18 #[.slice a l.length c, .int .i64 budget] w fun e w' => CompGot l (errC l 0) B e w' ∧ Below w.heap.size w w' := by
 obtain ⟨W1, hW1⟩ : ∃ W1, w.alloc (.cells zc3 26) = W1 := ⟨_, rfl⟩
 have hst : (Instr.storeAt 26 (.pointer (some ⟨W1.heap.size, 0, none⟩)) (.agg zc3)).run Tryz.prog (W1.alloc (.cells zc3 26)) = .ok () (W1.alloc (.cells zc3 26)) := run_storeAt_new (P := Tryz.prog) W1 26 zc3 _ (by kernel_rfl) rfl (by kernel_rfl)
 obtain ⟨W2, hW2⟩ : ∃ W2, W1.alloc (.cells zc3 26) = W2 := ⟨_, rfl⟩
 rw [hW2] at hst
 have b1 := bel_nw hW1
 have b2 := bel_al b1 hW2
 have HG4 : Hid (Blk W2 w.heap.size 26 zc3) := (blk_nw hW1).al hW2
 have K : Hid _ := rcut_err a c l 0 W2 (hrow.low b2) he
 obtain ⟨N, hN⟩ : ∃ N, l.length = N := ⟨_, rfl⟩
 rw [hN] at K ⊢
 obtain ⟨E, hE⟩ : ∃ E, errC l 0 = E := ⟨_, rfl⟩
 rw [hE] at K he ⊢
 have hne : (E != 0) = true := by simpa using he
 have HNE : Hid (E ≠ 0) := he
 obtain ⟨h1, h2⟩ := h
 clear hE hN hrow he
 go_enter Tryz.func18, Tryz.ntmps18
 go_wp2_with (first | (refine wpList_store_new _ _ rfl _ _ _ rfl _ _ rfl rfl hst ?_))
 clear hst
 go_loopw [7, 8] (fun v7 i wr => v7 = .int .i64 0 ∧ i = .int .i64 0 ∧ W2 = wr) (fun _ i _ => 7 - (intOf i).toNat)
 case atStart => exact ⟨rfl, rfl, by trivial⟩
 case round =>
  obtain ⟨rfl, rfl, hwr⟩ := hrel
  subst hwr
  go_wp2_with fail
  refine Calls.mono K.out ?_
  rintro e V2 ⟨rfl, q2⟩
  have bw3 : Below w.heap.size w (V2.alloc (.cells zc 63)) := bel_tr b2 (bel_al q2 rfl)
  have RB : Blk (V2.alloc (.cells zc 63)) w.heap.size 26 zc3 := HG4.out.kept (bel_al q2 rfl)
  go_wp2_with (refine wpList_st rfl 26 _ _ rfl w.heap.size zc3 zc3 (by rfl) (by rfl) RB (by kernel_rfl) rfl (by kernel_rfl) ?_)
  exact ret_cell_tmp (k := 4) (j := 5) Tryz.f18 (by kernel_rfl) (RB.set _) Tryz.underlying26 (by kernel_rfl) (by rfl) (by rfl) rfl ⟨got_no HNE.out _, below_setRow bw3 (Nat.le_refl _) _⟩
/-- The document's Compile. -/
theorem rcompile_any (a : Option Addr) (c : Nat) (l : List Rl) (budget : Int) (w : World) (hrow : RowR w a l) :
  Calls Tryz.prog 18 #[.slice a l.length c, .int .i64 budget] w fun e w' => CompGot l (errT l (errC l 0) budget) w.heap.size e w' ∧ Below w.heap.size w w' := by
 unfold errT
 by_cases h : 0 ≤ budget ∧ budget ≤ 4096
 ·rw [if_pos h]
  by_cases he : errC l 0 = 0
  ·rw [if_neg (by simpa using he)]
   exact rcompile_main a c l budget w hrow he h.1 h.2
  ·rw [if_pos he]
   exact rcompile_cut a c l budget w hrow he h _
 ·rw [if_neg h]
  exact rcompile_arg a c l _ budget w h _
/-- Tables, as they are read. -/
structure TR where
 da : Option Addr
 dc : Nat
 D : List ChR
 xa : Option Addr
 xc : Nat
 X : List CrR
 fa : Option Addr
 fc : Nat
 F : List Int
abbrev TR.v (t : TR) : Array Value := #[.slice t.da t.D.length t.dc, .slice t.xa t.X.length t.xc, .slice t.fa t.F.length t.fc]
structure TR.ok (w : World) (t : TR) : Prop where
 dn : t.D.length ≤ 17592186044416
 xn : t.X.length ≤ 17592186044416
 d : RowD w t.da t.D
 x : RowX w t.xa t.X
 f : RowI w t.fa t.F
theorem TR.ok.low {w w' : World} {t : TR} (h : t.ok w) (hb : Below w.heap.size w w') : t.ok w' := ⟨h.dn, h.xn, h.d.low hb, h.x.low hb, h.f.below hb⟩
/-- What they must be. -/
def TabC (l : List Rl) (E : Int) (t : TR) : Prop := (E ≠ 0 ∧ t.D = [] ∧ t.X = [] ∧ t.F = []) ∨ (E = 0 ∧ ∃ D X, TabIs l D X t.F ∧ t.D = D.map ChM.r ∧ t.X = X.map CrM.r)
/-- Where Compile is not refused. -/
theorem errT_ok {l : List Rl} {budget : Int} (h : errT l (errC l 0) budget = 0) : errC l 0 = 0 ∧ l.length ≤ 64 ∧ (costN l 6 : Int) ≤ budget ∧ budget ≤ 4096 ∧ costN l 6 ≤ 4096 := by
 unfold errT at h
 split at h
 ·rename_i hb
  split at h
  ·rename_i he; exact absurd h he
  ·rename_i he
   have he' : errC l 0 = 0 := by simpa using he
   split at h
   ·cases h
   ·obtain ⟨_, _, _, hl, _⟩ := err_ok he'
    exact ⟨he', hl, by omega, hb.2, by omega⟩
 ·cases h
theorem tab_small {l : List Rl} (hl : l.length ≤ 64) (hc : costN l 6 ≤ 4096) {D : List ChM} {X : List CrM} {F : List Int} (h : TabIs l D X F) :
  (∀ x ∈ D, x.L.length ≤ 1000 ∧ x.K.length = x.L.length ∧ x.S.length ≤ 1000 ∧ (∀ s ∈ x.S, s.length ≤ 1000) ∧ ∀ p ∈ x.L, p.ok) ∧ (∀ x ∈ X, x.K.length ≤ 10000 ∧ x.S.length ≤ 10000 ∧ ∀ s ∈ x.S, s.length ≤ 1000) ∧ F.length ≤ 10000 := by
 have hX : ∀ (n : Nat) (x : CrM), X[n]? = some x → x.K.length = (sA l n).length * (sB l n).length ∧ x.K.length ≤ 4096 ∧ x.S.length ≤ 4096 ∧ Rs2 x.S := fun n x hx => by
  have hn : n < 6 := by have := (List.getElem?_eq_some_iff.1 hx).1; rw [h.x6] at this; exact this
  obtain ⟨_, u2, u3⟩ := h.crs n x hx
  have h1 : x.K.length = (sA l n).length * (sB l n).length := by rw [u2, class_len, cross_len]
  have h2 : costN l (n + 1) ≤ costN l 6 := cost_le l (n + 1) 6 (by omega)
  have h3 : costN l (n + 1) = costN l n + (sA l n).length * (sB l n).length := rfl
  have h4 : (setsL (crossL (sA l n) (sB l n))).length ≤ (crossL (sA l n) (sB l n)).length := sets_len _
  rw [cross_len] at h4
  refine ⟨h1, by omega, by rw [u3]; omega, ?_⟩
  rw [u3]
  exact sets_rs (cross_rs (cls_rs l hl n (by omega) _ (List.mem_of_getElem? (cls_L l hn))) (cls_rs l hl n (by omega) _ (List.mem_of_getElem? (cls_R l hn))))
 refine ⟨fun x hx => ?_, fun x hx => ?_, ?_⟩
 ·obtain ⟨d, hd⟩ := List.getElem?_of_mem hx
  exact cutP_small (h.dim d x hd) hl
 ·obtain ⟨n, hn⟩ := List.getElem?_of_mem hx
  obtain ⟨_, h1, h2, h3⟩ := hX n x hn
  exact ⟨by omega, by omega, fun s hs => by have := rs_len (h3 s hs); omega⟩
 ·obtain ⟨x, hx⟩ : ∃ x, X[5]? = some x := ⟨_, List.getElem?_eq_getElem (by rw [h.x6]; omega)⟩
  obtain ⟨_, _, h2, _⟩ := hX 5 x hx
  rw [h.fst, List.length_map, ← (h.crs 5 x hx).2.2]
  omega
theorem comp_tr {l : List Rl} {budget : Int} {B : Nat} {e : Ending} {w : World} (h : CompGot l (errT l (errC l 0) budget) B e w) : ∃ t : TR, e = .returned (.tuple #[.agg t.v, .int .i64 (errT l (errC l 0) budget)]) ∧ t.ok w ∧ TabC l (errT l (errC l 0) budget) t := by
 rcases h with ⟨h0, rfl⟩ | ⟨h0, da, dc, D, xa, xc, X, fa, fc, F, rfl, hD, hX, hF, hT⟩
 ·exact ⟨⟨none, 0, [], none, 0, [], none, 0, []⟩, rfl, ⟨by simp, by simp, ⟨fun q hq => (by cases hq), fun i q hq => (by simp at hq)⟩, ⟨fun q hq => (by cases hq), fun i q hq => (by simp at hq)⟩, rowi_nil w⟩, .inl ⟨h0, rfl, rfl, rfl⟩⟩
 ·obtain ⟨_, hl, _, _, hc⟩ := errT_ok h0
  obtain ⟨s1, s2, s3⟩ := tab_small hl hc hT
  refine ⟨⟨da, dc, D.map ChM.r, xa, xc, X.map CrM.r, fa, fc, F⟩, ?_, ⟨?_, ?_, hD.rows s1, hX.rows s2, hF.row (by omega)⟩, .inr ⟨h0, D, X, hT, rfl, rfl⟩⟩
  ·rw [h0]
   show _ = Ending.returned (.tuple #[.agg #[.slice da (D.map ChM.r).length dc, .slice xa (X.map CrM.r).length xc, .slice fa F.length fc], .int .i64 0])
   rw [List.length_map, List.length_map, hT.d7, hT.x6]
  ·show (D.map ChM.r).length ≤ _; rw [List.length_map, hT.d7]; omega
  ·show (X.map CrM.r).length ≤ _; rw [List.length_map, hT.x6]; omega
theorem compile_tr (a : Option Addr) (c : Nat) (l : List Rl) (budget : Int) (w : World) (hT : Top w) (hDb : Deb w) (hSd : Sds w) (hrow : RowR w a l) :
  Calls Tryz.prog 14 #[.slice a l.length c, .int .i64 budget] w fun e w' => ∃ t : TR, e = .returned (.tuple #[.agg t.v, .int .i64 (errT l (errC l 0) budget)]) ∧ t.ok w' ∧ TabC l (errT l (errC l 0) budget) t ∧ Below w.heap.size w w' :=
 (compile_any a c l budget w hT hDb hSd hrow).mono (by
  rintro e w' ⟨h, hb⟩
  obtain ⟨t, h1, h2, h3⟩ := comp_tr h
  exact ⟨t, h1, h2, h3, hb⟩)
theorem rcompile_tr (a : Option Addr) (c : Nat) (l : List Rl) (budget : Int) (w : World) (hrow : RowR w a l) :
  Calls Tryz.prog 18 #[.slice a l.length c, .int .i64 budget] w fun e w' => ∃ t : TR, e = .returned (.tuple #[.agg t.v, .int .i64 (errT l (errC l 0) budget)]) ∧ t.ok w' ∧ TabC l (errT l (errC l 0) budget) t ∧ Below w.heap.size w w' :=
 (rcompile_any a c l budget w hrow).mono (by
  rintro e w' ⟨h, hb⟩
  obtain ⟨t, h1, h2, h3⟩ := comp_tr h
  exact ⟨t, h1, h2, h3, hb⟩)
theorem setsD_nil (d : Nat) : setsD [] d = [[]] := by unfold setsD; rfl
theorem lenD_nil (d : Nat) : lenD [] d = 1 := by unfold lenD; rfl
theorem cross_one : setsL (crossL [[]] [[]]) = [[]] := by
 have : crossL [[]] [[]] = [[]] := by unfold crossL; simp [both_nill]
 rw [this]; rfl
theorem cls_nil : ∀ n, n ≤ 6 → clsN [] n = List.replicate (7 + n) [[]]
 | 0, _ => by simp [clsN, setsD_nil]; decide
 | n + 1, h => by
  have ih := cls_nil n (by omega)
  have h1 : sA [] n = [[]] := by
   have := cls_L [] (n := n) (by omega)
   rw [ih, List.getElem?_replicate] at this
   split at this
   ·exact (Option.some.inj this).symm
   ·cases this
  have h2 : sB [] n = [[]] := by
   have := cls_R [] (n := n) (by omega)
   rw [ih, List.getElem?_replicate] at this
   split at this
   ·exact (Option.some.inj this).symm
   ·cases this
  rw [cls_succ, ih, h1, h2, cross_one, show 7 + (n + 1) = (7 + n) + 1 from rfl, List.replicate_succ']
theorem side_nil (n : Nat) (h : n < 6) : sA [] n = [[]] ∧ sB [] n = [[]] := by
 have ih := cls_nil n (by omega)
 constructor
 ·have := cls_L [] (n := n) (by omega)
  rw [ih, List.getElem?_replicate] at this
  split at this
  ·exact (Option.some.inj this).symm
  ·cases this
 ·have := cls_R [] (n := n) (by omega)
  rw [ih, List.getElem?_replicate] at this
  split at this
  ·exact (Option.some.inj this).symm
  ·cases this
theorem cost_nil : costN [] 6 = 13 := by
 simp only [costN, costD, lenD_nil, (side_nil 0 (by omega)).1, (side_nil 0 (by omega)).2, (side_nil 1 (by omega)).1, (side_nil 1 (by omega)).2, (side_nil 2 (by omega)).1, (side_nil 2 (by omega)).2, (side_nil 3 (by omega)).1, (side_nil 3 (by omega)).2, (side_nil 4 (by omega)).1, (side_nil 4 (by omega)).2, (side_nil 5 (by omega)).1, (side_nil 5 (by omega)).2]
 rfl
theorem errT_13 : errT [] (errC [] 0) 13 = 0 := by
 unfold errT
 rw [cost_nil]
 decide
/-- What Spot answers. -/
def spotR (k : Ky) (dim : Int) : Pt × Bool := if k.right = true ∧ 0 ≤ dim ∧ dim < 7 then (k.spot dim.toNat, true) else (pt0, false)
set_option maxRecDepth 100000 in
set_option maxHeartbeats 4000000 in
theorem spot_ck (k : Ky) (dim : Int) (w : World) (ho : k.ok) :
  Calls Tryz.prog 55 #[.agg k.v, .int .i64 dim] w fun e w' => e = .returned (.tuple #[.agg (spotR k dim).1.v, .bool (spotR k dim).2]) ∧ Below w.heap.size w w' := by
 have K1 := hidW (fun W => rightDim_any dim W)
 have K2 := hidW (fun W => rightKey_any k W ho)
 have KS : Hid (∀ d : Nat, d < 7 → k.right = true → ∀ W, Calls Tryz.prog 85 #[.agg k.v, .int .i64 (d : Int)] W fun e w' => e = .returned (.agg (k.spot d).v) ∧ Below W.heap.size W w') := fun d hd hr W => spot_any k d hd W hr
 have hs2 : (Tryz.prog.info? 33).map (·.size) = some k.v.size := info_ky k
 obtain ⟨W1, hW1⟩ : ∃ W1, w.alloc (.cells k.v 33) = W1 := ⟨_, rfl⟩
 obtain ⟨W2, hW2⟩ : ∃ W2, W1.alloc (.cells z3 86) = W2 := ⟨_, rfl⟩
 have b1 := bel_nw hW1
 have b2 := bel_al b1 hW2
 have B1' := blk_nw hW1
 have HB1 : Hid (Blk W2 w.heap.size 33 k.v) := B1'.al hW2
 have HB2 : Hid (Blk W2 W1.heap.size 86 z3) := blk_nw hW2
 have gw : w.heap.size ≤ W1.heap.size := Nat.le_of_lt B1'.lt
 clear b1 B1'
 by_cases hd : 0 ≤ dim ∧ dim < 7
 ·obtain ⟨d, hdd⟩ : ∃ d : Nat, dim = (d : Int) := ⟨dim.toNat, by omega⟩
  have hd7 : d < 7 := by omega
  have hf : (decide (0 ≤ dim) && decide (dim < 7)) = true := by simp [hd.1, hd.2]
  rw [hf] at K1
  have HS : Hid (spotR k dim = if k.right = true then (k.spot d, true) else (pt0, false)) := by
   show _ = _
   unfold spotR
   rw [hdd]
   simp only [Int.toNat_natCast]
   by_cases hr : k.right = true
   ·rw [if_pos ⟨hr, by omega, by omega⟩, if_pos hr]
   ·rw [if_neg (fun h => hr h.1), if_neg hr]
  rw [HS.out]
  clear hf HS
  subst hdd
  have KS' : Hid _ := KS.out d hd7
  clear KS
  obtain ⟨KV, hKV⟩ : ∃ KV, k.v = KV := ⟨_, rfl⟩
  rw [hKV] at hs2 hW1 HB1 K2 KS' ⊢
  have hk2 := HB1.out.at_
  go_enter Tryz.func55, Tryz.ntmps55
  go_wp2_with fail
  refine Calls.mono (K1.out _) ?_
  rintro e W2' ⟨rfl, e1⟩
  rw [e1]
  clear e1
  go_wp2_with (refine wpList_load_at_w rfl _ _ rfl _ 0 (by rfl) _ hk2 Tryz.underlying33 hs2 ?_)
  refine Calls.mono (K2.out _) ?_
  rintro e W3 ⟨rfl, bb⟩
  have b3 := bel_tr b2 bb
  have HB3 : Hid (Blk W3 w.heap.size 33 KV) := HB1.out.kept bb
  have HB4 : Hid (Blk W3 W1.heap.size 86 z3) := HB2.out.kept bb
  clear bb K2 K1 hW1 hW2 hk2 b2
  cases hr : k.right with
  | false =>
   simp only [Bool.false_eq_true, if_false]
   have B4 := HB4.out
   go_wp2_with (refine wpList_st rfl 86 _ _ rfl W1.heap.size z3 z3 (by rfl) (by rfl) B4 (by kernel_rfl) rfl (by kernel_rfl) ?_)
   all_goals exact ret_cell_tmp (k := 4) (j := 5) Tryz.f55 (by kernel_rfl) (B4.set _) Tryz.underlying86 (by kernel_rfl) (by rfl) (by rfl) rfl ⟨rfl, below_setRow b3 gw _⟩
  | true =>
   simp only [if_true]
   have KS2 : Hid _ := KS'.out hr
   have hk3 := HB3.out.at_
   go_wp2_with (refine wpList_load_at_w rfl _ _ rfl _ 0 (by rfl) _ hk3 Tryz.underlying33 hs2 ?_)
   refine Calls.mono (KS2.out _) ?_
   rintro e W4 ⟨rfl, bb⟩
   have b4 := bel_tr b3 bb
   have B5 : Blk W4 W1.heap.size 86 z3 := HB4.out.kept bb
   clear bb KS2 KS' hk3 b3
   go_wp2_with (refine wpList_st rfl 86 _ _ rfl W1.heap.size (k.spot d).v z3 (by rfl) (by rfl) B5 (by kernel_rfl) rfl (by kernel_rfl) ?_)
   exact ret_cell_tmp (k := 4) (j := 5) Tryz.f55 (by kernel_rfl) (B5.set _) Tryz.underlying86 (by kernel_rfl) (by rfl) (by rfl) rfl ⟨rfl, below_setRow b4 gw _⟩
 ·have hf : (decide (0 ≤ dim) && decide (dim < 7)) = false := by
   rw [Bool.and_eq_false_iff]
   simp only [decide_eq_false_iff_not]
   omega
  rw [hf] at K1
  have HS : Hid (spotR k dim = (pt0, false)) := by
   show _ = _
   unfold spotR
   rw [if_neg (fun h => hd h.2)]
  rw [HS.out]
  clear hf HS KS K2
  obtain ⟨KV, hKV⟩ : ∃ KV, k.v = KV := ⟨_, rfl⟩
  rw [hKV] at hs2 hW1 HB1 ⊢
  go_enter Tryz.func55, Tryz.ntmps55
  go_wp2_with fail
  refine Calls.mono (K1.out _) ?_
  rintro e W2' ⟨rfl, e1⟩
  rw [e1]
  clear e1 hW1 hW2 K1
  have B4 := HB2.out
  go_wp2_with (refine wpList_st rfl 86 _ _ rfl W1.heap.size z3 z3 (by rfl) (by rfl) B4 (by kernel_rfl) rfl (by kernel_rfl) ?_)
  exact ret_cell_tmp (k := 4) (j := 5) Tryz.f55 (by kernel_rfl) (B4.set _) Tryz.underlying86 (by kernel_rfl) (by rfl) (by rfl) rfl ⟨rfl, below_setRow b2 gw _⟩
set_option maxRecDepth 100000 in
set_option maxHeartbeats 4000000 in
theorem rspot_0 (k : Ky) (w : World) (ho : k.ok) (hr : k.right = true) :
  Calls Tryz.prog 32 #[.agg k.v, .int .i64 0] w fun e w' => e = .returned (.tuple #[.agg (k.spot 0).v, .bool true]) ∧ Below w.heap.size w w' := by
 have K2 := hidW (fun W => rrightKey_any k W ho)
 rw [hr] at K2
 obtain ⟨k1, k2, k3, k4, k5, k6, k7⟩ := Ky.right_all hr
 have K : Hid (∀ W, Calls Tryz.prog 57 #[.int .i64 k.fr] W fun e w' => e = .returned (.agg (k.spot 0).v) ∧ Below W.heap.size W w') := fun W => rnumber_pt k.fr W (by omega)
 clear k1 k2 k3 k4 k5 k6 k7 hr
 generalize k.spot 0 = P at *
 have hs2 : (Tryz.prog.info? 33).map (·.size) = some k.v.size := info_ky k
 obtain ⟨W1, hW1⟩ : ∃ W1, w.alloc (.cells k.v 33) = W1 := ⟨_, rfl⟩
 obtain ⟨W2, hW2⟩ : ∃ W2, W1.alloc (.cells z3 86) = W2 := ⟨_, rfl⟩
 have b1 := bel_nw hW1
 have b2 := bel_al b1 hW2
 have B1' := blk_nw hW1
 have HB1 : Hid (Blk W2 w.heap.size 33 k.v) := B1'.al hW2
 have HB2 : Hid (Blk W2 W1.heap.size 86 z3) := blk_nw hW2
 have gw : w.heap.size ≤ W1.heap.size := Nat.le_of_lt B1'.lt
 clear b1 B1'
 obtain ⟨KV, hKV⟩ : ∃ KV, k.v = KV := ⟨_, rfl⟩
 have hk2 := HB1.out.at_
 rw [hKV] at hs2 hW1 hk2 K2 ⊢
 go_enter Tryz.func32, Tryz.ntmps32
 go_wp2_with (refine wpList_load_at_w rfl _ _ rfl _ 0 (by rfl) _ hk2 Tryz.underlying33 hs2 ?_)
 refine Calls.mono (K2.out _) ?_
 rintro e W3 ⟨rfl, bb⟩
 have b3 := bel_tr b2 bb
 have HB3 : Hid (Blk W3 w.heap.size 33 k.v) := HB1.out.kept bb
 have HB4 : Hid (Blk W3 W1.heap.size 86 z3) := HB2.out.kept bb
 clear bb K2 hW1 hW2 hk2 b2
 have c0 := HB3.out.cell 0 (.int .i64 k.fr) rfl
 go_wp2_with fail
 refine Calls.mono (K.out _) ?_
 rintro e W4 ⟨rfl, bb⟩
 have b4 := bel_tr b3 bb
 have B5 : Blk W4 W1.heap.size 86 z3 := HB4.out.kept bb
 clear bb K b3 c0
 go_wp2_with (refine wpList_st rfl 86 _ _ rfl W1.heap.size P.v z3 (by rfl) (by rfl) B5 (by kernel_rfl) rfl (by kernel_rfl) ?_)
 exact ret_cell_tmp (k := 4) (j := 5) Tryz.f32 (by kernel_rfl) (B5.set _) Tryz.underlying86 (by kernel_rfl) (by rfl) (by rfl) rfl ⟨rfl, below_setRow b4 gw _⟩
set_option maxRecDepth 100000 in
set_option maxHeartbeats 4000000 in
theorem rspot_1 (k : Ky) (w : World) (ho : k.ok) (hr : k.right = true) :
  Calls Tryz.prog 32 #[.agg k.v, .int .i64 1] w fun e w' => e = .returned (.tuple #[.agg (k.spot 1).v, .bool true]) ∧ Below w.heap.size w w' := by
 have K2 := hidW (fun W => rrightKey_any k W ho)
 rw [hr] at K2
 obtain ⟨k1, k2, k3, k4, k5, k6, k7⟩ := Ky.right_all hr
 have K : Hid (∀ W, Calls Tryz.prog 57 #[.int .i64 k.tz] W fun e w' => e = .returned (.agg (k.spot 1).v) ∧ Below W.heap.size W w') := fun W => rnumber_pt k.tz W (by omega)
 clear k1 k2 k3 k4 k5 k6 k7 hr
 generalize k.spot 1 = P at *
 have hs2 : (Tryz.prog.info? 33).map (·.size) = some k.v.size := info_ky k
 obtain ⟨W1, hW1⟩ : ∃ W1, w.alloc (.cells k.v 33) = W1 := ⟨_, rfl⟩
 obtain ⟨W2, hW2⟩ : ∃ W2, W1.alloc (.cells z3 86) = W2 := ⟨_, rfl⟩
 have b1 := bel_nw hW1
 have b2 := bel_al b1 hW2
 have B1' := blk_nw hW1
 have HB1 : Hid (Blk W2 w.heap.size 33 k.v) := B1'.al hW2
 have HB2 : Hid (Blk W2 W1.heap.size 86 z3) := blk_nw hW2
 have gw : w.heap.size ≤ W1.heap.size := Nat.le_of_lt B1'.lt
 clear b1 B1'
 obtain ⟨KV, hKV⟩ : ∃ KV, k.v = KV := ⟨_, rfl⟩
 have hk2 := HB1.out.at_
 rw [hKV] at hs2 hW1 hk2 K2 ⊢
 go_enter Tryz.func32, Tryz.ntmps32
 go_wp2_with (refine wpList_load_at_w rfl _ _ rfl _ 0 (by rfl) _ hk2 Tryz.underlying33 hs2 ?_)
 refine Calls.mono (K2.out _) ?_
 rintro e W3 ⟨rfl, bb⟩
 have b3 := bel_tr b2 bb
 have HB3 : Hid (Blk W3 w.heap.size 33 k.v) := HB1.out.kept bb
 have HB4 : Hid (Blk W3 W1.heap.size 86 z3) := HB2.out.kept bb
 clear bb K2 hW1 hW2 hk2 b2
 have c1 := HB3.out.cell 1 (.int .i64 k.tz) rfl
 go_wp2_with fail
 refine Calls.mono (K.out _) ?_
 rintro e W4 ⟨rfl, bb⟩
 have b4 := bel_tr b3 bb
 have B5 : Blk W4 W1.heap.size 86 z3 := HB4.out.kept bb
 clear bb K b3 c1
 go_wp2_with (refine wpList_st rfl 86 _ _ rfl W1.heap.size P.v z3 (by rfl) (by rfl) B5 (by kernel_rfl) rfl (by kernel_rfl) ?_)
 exact ret_cell_tmp (k := 4) (j := 5) Tryz.f32 (by kernel_rfl) (B5.set _) Tryz.underlying86 (by kernel_rfl) (by rfl) (by rfl) rfl ⟨rfl, below_setRow b4 gw _⟩
set_option maxRecDepth 100000 in
set_option maxHeartbeats 4000000 in
theorem rspot_2 (k : Ky) (w : World) (ho : k.ok) (hr : k.right = true) :
  Calls Tryz.prog 32 #[.agg k.v, .int .i64 2] w fun e w' => e = .returned (.tuple #[.agg (k.spot 2).v, .bool true]) ∧ Below w.heap.size w w' := by
 have K2 := hidW (fun W => rrightKey_any k W ho)
 rw [hr] at K2
 obtain ⟨k1, k2, k3, k4, k5, k6, k7⟩ := Ky.right_all hr
 have K : Hid (∀ W, Calls Tryz.prog 58 #[.agg #[.int .i64 k.s.fam, .int .u64 k.s.hi, .int .u64 k.s.lo]] W fun e w' => e = .returned (.agg (k.spot 2).v) ∧ Below W.heap.size W w') := fun W => raddress_pt k.s W (by have := right_fam k3; omega)
 clear k1 k2 k3 k4 k5 k6 k7 hr
 generalize k.spot 2 = P at *
 have hs2 : (Tryz.prog.info? 33).map (·.size) = some k.v.size := info_ky k
 obtain ⟨W1, hW1⟩ : ∃ W1, w.alloc (.cells k.v 33) = W1 := ⟨_, rfl⟩
 obtain ⟨W2, hW2⟩ : ∃ W2, W1.alloc (.cells z3 86) = W2 := ⟨_, rfl⟩
 have b1 := bel_nw hW1
 have b2 := bel_al b1 hW2
 have B1' := blk_nw hW1
 have HB1 : Hid (Blk W2 w.heap.size 33 k.v) := B1'.al hW2
 have HB2 : Hid (Blk W2 W1.heap.size 86 z3) := blk_nw hW2
 have gw : w.heap.size ≤ W1.heap.size := Nat.le_of_lt B1'.lt
 clear b1 B1'
 obtain ⟨KV, hKV⟩ : ∃ KV, k.v = KV := ⟨_, rfl⟩
 have hk2 := HB1.out.at_
 rw [hKV] at hs2 hW1 hk2 K2 ⊢
 go_enter Tryz.func32, Tryz.ntmps32
 go_wp2_with (refine wpList_load_at_w rfl _ _ rfl _ 0 (by rfl) _ hk2 Tryz.underlying33 hs2 ?_)
 refine Calls.mono (K2.out _) ?_
 rintro e W3 ⟨rfl, bb⟩
 have b3 := bel_tr b2 bb
 have HB3 : Hid (Blk W3 w.heap.size 33 k.v) := HB1.out.kept bb
 have HB4 : Hid (Blk W3 W1.heap.size 86 z3) := HB2.out.kept bb
 clear bb K2 hW1 hW2 hk2 b2
 have c2 := HB3.out.cell 2 (.int .i64 k.s.fam) rfl
 have c3 := HB3.out.cell 3 (.int .u64 k.s.hi) rfl
 have c4 := HB3.out.cell 4 (.int .u64 k.s.lo) rfl
 go_wp2_with fail
 refine Calls.mono (K.out _) ?_
 rintro e W4 ⟨rfl, bb⟩
 have b4 := bel_tr b3 bb
 have B5 : Blk W4 W1.heap.size 86 z3 := HB4.out.kept bb
 clear bb K b3 c2 c3 c4
 go_wp2_with (refine wpList_st rfl 86 _ _ rfl W1.heap.size P.v z3 (by rfl) (by rfl) B5 (by kernel_rfl) rfl (by kernel_rfl) ?_)
 exact ret_cell_tmp (k := 4) (j := 5) Tryz.f32 (by kernel_rfl) (B5.set _) Tryz.underlying86 (by kernel_rfl) (by rfl) (by rfl) rfl ⟨rfl, below_setRow b4 gw _⟩
set_option maxRecDepth 100000 in
set_option maxHeartbeats 4000000 in
theorem rspot_3 (k : Ky) (w : World) (ho : k.ok) (hr : k.right = true) :
  Calls Tryz.prog 32 #[.agg k.v, .int .i64 3] w fun e w' => e = .returned (.tuple #[.agg (k.spot 3).v, .bool true]) ∧ Below w.heap.size w w' := by
 have K2 := hidW (fun W => rrightKey_any k W ho)
 rw [hr] at K2
 obtain ⟨k1, k2, k3, k4, k5, k6, k7⟩ := Ky.right_all hr
 have K : Hid (∀ W, Calls Tryz.prog 58 #[.agg #[.int .i64 k.d.fam, .int .u64 k.d.hi, .int .u64 k.d.lo]] W fun e w' => e = .returned (.agg (k.spot 3).v) ∧ Below W.heap.size W w') := fun W => raddress_pt k.d W (by have := right_fam k4; omega)
 clear k1 k2 k3 k4 k5 k6 k7 hr
 generalize k.spot 3 = P at *
 have hs2 : (Tryz.prog.info? 33).map (·.size) = some k.v.size := info_ky k
 obtain ⟨W1, hW1⟩ : ∃ W1, w.alloc (.cells k.v 33) = W1 := ⟨_, rfl⟩
 obtain ⟨W2, hW2⟩ : ∃ W2, W1.alloc (.cells z3 86) = W2 := ⟨_, rfl⟩
 have b1 := bel_nw hW1
 have b2 := bel_al b1 hW2
 have B1' := blk_nw hW1
 have HB1 : Hid (Blk W2 w.heap.size 33 k.v) := B1'.al hW2
 have HB2 : Hid (Blk W2 W1.heap.size 86 z3) := blk_nw hW2
 have gw : w.heap.size ≤ W1.heap.size := Nat.le_of_lt B1'.lt
 clear b1 B1'
 obtain ⟨KV, hKV⟩ : ∃ KV, k.v = KV := ⟨_, rfl⟩
 have hk2 := HB1.out.at_
 rw [hKV] at hs2 hW1 hk2 K2 ⊢
 go_enter Tryz.func32, Tryz.ntmps32
 go_wp2_with (refine wpList_load_at_w rfl _ _ rfl _ 0 (by rfl) _ hk2 Tryz.underlying33 hs2 ?_)
 refine Calls.mono (K2.out _) ?_
 rintro e W3 ⟨rfl, bb⟩
 have b3 := bel_tr b2 bb
 have HB3 : Hid (Blk W3 w.heap.size 33 k.v) := HB1.out.kept bb
 have HB4 : Hid (Blk W3 W1.heap.size 86 z3) := HB2.out.kept bb
 clear bb K2 hW1 hW2 hk2 b2
 have c5 := HB3.out.cell 5 (.int .i64 k.d.fam) rfl
 have c6 := HB3.out.cell 6 (.int .u64 k.d.hi) rfl
 have c7 := HB3.out.cell 7 (.int .u64 k.d.lo) rfl
 go_wp2_with fail
 refine Calls.mono (K.out _) ?_
 rintro e W4 ⟨rfl, bb⟩
 have b4 := bel_tr b3 bb
 have B5 : Blk W4 W1.heap.size 86 z3 := HB4.out.kept bb
 clear bb K b3 c5 c6 c7
 go_wp2_with (refine wpList_st rfl 86 _ _ rfl W1.heap.size P.v z3 (by rfl) (by rfl) B5 (by kernel_rfl) rfl (by kernel_rfl) ?_)
 exact ret_cell_tmp (k := 4) (j := 5) Tryz.f32 (by kernel_rfl) (B5.set _) Tryz.underlying86 (by kernel_rfl) (by rfl) (by rfl) rfl ⟨rfl, below_setRow b4 gw _⟩
set_option maxRecDepth 100000 in
set_option maxHeartbeats 4000000 in
theorem rspot_4 (k : Ky) (w : World) (ho : k.ok) (hr : k.right = true) :
  Calls Tryz.prog 32 #[.agg k.v, .int .i64 4] w fun e w' => e = .returned (.tuple #[.agg (k.spot 4).v, .bool true]) ∧ Below w.heap.size w w' := by
 have K2 := hidW (fun W => rrightKey_any k W ho)
 rw [hr] at K2
 obtain ⟨k1, k2, k3, k4, k5, k6, k7⟩ := Ky.right_all hr
 have K : Hid (∀ W, Calls Tryz.prog 57 #[.int .i64 k.pr] W fun e w' => e = .returned (.agg (k.spot 4).v) ∧ Below W.heap.size W w') := fun W => rnumber_pt k.pr W (by omega)
 clear k1 k2 k3 k4 k5 k6 k7 hr
 generalize k.spot 4 = P at *
 have hs2 : (Tryz.prog.info? 33).map (·.size) = some k.v.size := info_ky k
 obtain ⟨W1, hW1⟩ : ∃ W1, w.alloc (.cells k.v 33) = W1 := ⟨_, rfl⟩
 obtain ⟨W2, hW2⟩ : ∃ W2, W1.alloc (.cells z3 86) = W2 := ⟨_, rfl⟩
 have b1 := bel_nw hW1
 have b2 := bel_al b1 hW2
 have B1' := blk_nw hW1
 have HB1 : Hid (Blk W2 w.heap.size 33 k.v) := B1'.al hW2
 have HB2 : Hid (Blk W2 W1.heap.size 86 z3) := blk_nw hW2
 have gw : w.heap.size ≤ W1.heap.size := Nat.le_of_lt B1'.lt
 clear b1 B1'
 obtain ⟨KV, hKV⟩ : ∃ KV, k.v = KV := ⟨_, rfl⟩
 have hk2 := HB1.out.at_
 rw [hKV] at hs2 hW1 hk2 K2 ⊢
 go_enter Tryz.func32, Tryz.ntmps32
 go_wp2_with (refine wpList_load_at_w rfl _ _ rfl _ 0 (by rfl) _ hk2 Tryz.underlying33 hs2 ?_)
 refine Calls.mono (K2.out _) ?_
 rintro e W3 ⟨rfl, bb⟩
 have b3 := bel_tr b2 bb
 have HB3 : Hid (Blk W3 w.heap.size 33 k.v) := HB1.out.kept bb
 have HB4 : Hid (Blk W3 W1.heap.size 86 z3) := HB2.out.kept bb
 clear bb K2 hW1 hW2 hk2 b2
 have c8 := HB3.out.cell 8 (.int .i64 k.pr) rfl
 go_wp2_with fail
 refine Calls.mono (K.out _) ?_
 rintro e W4 ⟨rfl, bb⟩
 have b4 := bel_tr b3 bb
 have B5 : Blk W4 W1.heap.size 86 z3 := HB4.out.kept bb
 clear bb K b3 c8
 go_wp2_with (refine wpList_st rfl 86 _ _ rfl W1.heap.size P.v z3 (by rfl) (by rfl) B5 (by kernel_rfl) rfl (by kernel_rfl) ?_)
 exact ret_cell_tmp (k := 4) (j := 5) Tryz.f32 (by kernel_rfl) (B5.set _) Tryz.underlying86 (by kernel_rfl) (by rfl) (by rfl) rfl ⟨rfl, below_setRow b4 gw _⟩
set_option maxRecDepth 100000 in
set_option maxHeartbeats 4000000 in
theorem rspot_5 (k : Ky) (w : World) (ho : k.ok) (hr : k.right = true) :
  Calls Tryz.prog 32 #[.agg k.v, .int .i64 5] w fun e w' => e = .returned (.tuple #[.agg (k.spot 5).v, .bool true]) ∧ Below w.heap.size w w' := by
 have K2 := hidW (fun W => rrightKey_any k W ho)
 rw [hr] at K2
 obtain ⟨k1, k2, k3, k4, k5, k6, k7⟩ := Ky.right_all hr
 have K : Hid (∀ W, Calls Tryz.prog 57 #[.int .i64 k.sp] W fun e w' => e = .returned (.agg (k.spot 5).v) ∧ Below W.heap.size W w') := fun W => rnumber_pt k.sp W (by omega)
 clear k1 k2 k3 k4 k5 k6 k7 hr
 generalize k.spot 5 = P at *
 have hs2 : (Tryz.prog.info? 33).map (·.size) = some k.v.size := info_ky k
 obtain ⟨W1, hW1⟩ : ∃ W1, w.alloc (.cells k.v 33) = W1 := ⟨_, rfl⟩
 obtain ⟨W2, hW2⟩ : ∃ W2, W1.alloc (.cells z3 86) = W2 := ⟨_, rfl⟩
 have b1 := bel_nw hW1
 have b2 := bel_al b1 hW2
 have B1' := blk_nw hW1
 have HB1 : Hid (Blk W2 w.heap.size 33 k.v) := B1'.al hW2
 have HB2 : Hid (Blk W2 W1.heap.size 86 z3) := blk_nw hW2
 have gw : w.heap.size ≤ W1.heap.size := Nat.le_of_lt B1'.lt
 clear b1 B1'
 obtain ⟨KV, hKV⟩ : ∃ KV, k.v = KV := ⟨_, rfl⟩
 have hk2 := HB1.out.at_
 rw [hKV] at hs2 hW1 hk2 K2 ⊢
 go_enter Tryz.func32, Tryz.ntmps32
 go_wp2_with (refine wpList_load_at_w rfl _ _ rfl _ 0 (by rfl) _ hk2 Tryz.underlying33 hs2 ?_)
 refine Calls.mono (K2.out _) ?_
 rintro e W3 ⟨rfl, bb⟩
 have b3 := bel_tr b2 bb
 have HB3 : Hid (Blk W3 w.heap.size 33 k.v) := HB1.out.kept bb
 have HB4 : Hid (Blk W3 W1.heap.size 86 z3) := HB2.out.kept bb
 clear bb K2 hW1 hW2 hk2 b2
 have c9 := HB3.out.cell 9 (.int .i64 k.sp) rfl
 go_wp2_with fail
 refine Calls.mono (K.out _) ?_
 rintro e W4 ⟨rfl, bb⟩
 have b4 := bel_tr b3 bb
 have B5 : Blk W4 W1.heap.size 86 z3 := HB4.out.kept bb
 clear bb K b3 c9
 go_wp2_with (refine wpList_st rfl 86 _ _ rfl W1.heap.size P.v z3 (by rfl) (by rfl) B5 (by kernel_rfl) rfl (by kernel_rfl) ?_)
 exact ret_cell_tmp (k := 4) (j := 5) Tryz.f32 (by kernel_rfl) (B5.set _) Tryz.underlying86 (by kernel_rfl) (by rfl) (by rfl) rfl ⟨rfl, below_setRow b4 gw _⟩
set_option maxRecDepth 100000 in
set_option maxHeartbeats 4000000 in
theorem rspot_6 (k : Ky) (w : World) (ho : k.ok) (hr : k.right = true) :
  Calls Tryz.prog 32 #[.agg k.v, .int .i64 6] w fun e w' => e = .returned (.tuple #[.agg (k.spot 6).v, .bool true]) ∧ Below w.heap.size w w' := by
 have K2 := hidW (fun W => rrightKey_any k W ho)
 rw [hr] at K2
 obtain ⟨k1, k2, k3, k4, k5, k6, k7⟩ := Ky.right_all hr
 have K : Hid (∀ W, Calls Tryz.prog 57 #[.int .i64 k.dp] W fun e w' => e = .returned (.agg (k.spot 6).v) ∧ Below W.heap.size W w') := fun W => rnumber_pt k.dp W (by omega)
 clear k1 k2 k3 k4 k5 k6 k7 hr
 generalize k.spot 6 = P at *
 have hs2 : (Tryz.prog.info? 33).map (·.size) = some k.v.size := info_ky k
 obtain ⟨W1, hW1⟩ : ∃ W1, w.alloc (.cells k.v 33) = W1 := ⟨_, rfl⟩
 obtain ⟨W2, hW2⟩ : ∃ W2, W1.alloc (.cells z3 86) = W2 := ⟨_, rfl⟩
 have b1 := bel_nw hW1
 have b2 := bel_al b1 hW2
 have B1' := blk_nw hW1
 have HB1 : Hid (Blk W2 w.heap.size 33 k.v) := B1'.al hW2
 have HB2 : Hid (Blk W2 W1.heap.size 86 z3) := blk_nw hW2
 have gw : w.heap.size ≤ W1.heap.size := Nat.le_of_lt B1'.lt
 clear b1 B1'
 obtain ⟨KV, hKV⟩ : ∃ KV, k.v = KV := ⟨_, rfl⟩
 have hk2 := HB1.out.at_
 rw [hKV] at hs2 hW1 hk2 K2 ⊢
 go_enter Tryz.func32, Tryz.ntmps32
 go_wp2_with (refine wpList_load_at_w rfl _ _ rfl _ 0 (by rfl) _ hk2 Tryz.underlying33 hs2 ?_)
 refine Calls.mono (K2.out _) ?_
 rintro e W3 ⟨rfl, bb⟩
 have b3 := bel_tr b2 bb
 have HB3 : Hid (Blk W3 w.heap.size 33 k.v) := HB1.out.kept bb
 have HB4 : Hid (Blk W3 W1.heap.size 86 z3) := HB2.out.kept bb
 clear bb K2 hW1 hW2 hk2 b2
 have c10 := HB3.out.cell 10 (.int .i64 k.dp) rfl
 go_wp2_with fail
 refine Calls.mono (K.out _) ?_
 rintro e W4 ⟨rfl, bb⟩
 have b4 := bel_tr b3 bb
 have B5 : Blk W4 W1.heap.size 86 z3 := HB4.out.kept bb
 clear bb K b3 c10
 go_wp2_with (refine wpList_st rfl 86 _ _ rfl W1.heap.size P.v z3 (by rfl) (by rfl) B5 (by kernel_rfl) rfl (by kernel_rfl) ?_)
 exact ret_cell_tmp (k := 4) (j := 5) Tryz.f32 (by kernel_rfl) (B5.set _) Tryz.underlying86 (by kernel_rfl) (by rfl) (by rfl) rfl ⟨rfl, below_setRow b4 gw _⟩
set_option maxRecDepth 100000 in
set_option maxHeartbeats 4000000 in
theorem rspot_not (k : Ky) (dim : Int) (w : World) (ho : k.ok) (h : k.right = false ∨ (dim < 0 ∨ 7 ≤ dim)) :
  Calls Tryz.prog 32 #[.agg k.v, .int .i64 dim] w fun e w' => e = .returned (.tuple #[.agg z3, .bool false]) ∧ Below w.heap.size w w' := by
 have K2 := hidW (fun W => rrightKey_any k W ho)
 have hs2 : (Tryz.prog.info? 33).map (·.size) = some k.v.size := info_ky k
 obtain ⟨W1, hW1⟩ : ∃ W1, w.alloc (.cells k.v 33) = W1 := ⟨_, rfl⟩
 obtain ⟨W2, hW2⟩ : ∃ W2, W1.alloc (.cells z3 86) = W2 := ⟨_, rfl⟩
 have b1 := bel_nw hW1
 have b2 := bel_al b1 hW2
 have B1' := blk_nw hW1
 have HB1 : Hid (Blk W2 w.heap.size 33 k.v) := B1'.al hW2
 have HB2 : Hid (Blk W2 W1.heap.size 86 z3) := blk_nw hW2
 have gw : w.heap.size ≤ W1.heap.size := Nat.le_of_lt B1'.lt
 clear b1 B1'
 obtain ⟨KV, hKV⟩ : ∃ KV, k.v = KV := ⟨_, rfl⟩
 have hk2 := HB1.out.at_
 rw [hKV] at hs2 hW1 hk2 K2 ⊢
 go_enter Tryz.func32, Tryz.ntmps32
 go_wp2_with (refine wpList_load_at_w rfl _ _ rfl _ 0 (by rfl) _ hk2 Tryz.underlying33 hs2 ?_)
 refine Calls.mono (K2.out _) ?_
 rintro e W3 ⟨rfl, bb⟩
 have b3 := bel_tr b2 bb
 have B4 : Blk W3 W1.heap.size 86 z3 := HB2.out.kept bb
 clear bb K2 hW1 hW2 hk2 b2
 cases hr : k.right with
 | false =>
  go_wp2_with (refine wpList_st rfl 86 _ _ rfl W1.heap.size z3 z3 (by rfl) (by rfl) B4 (by kernel_rfl) rfl (by kernel_rfl) ?_)
  exact ret_cell_tmp (k := 4) (j := 5) Tryz.f32 (by kernel_rfl) (B4.set _) Tryz.underlying86 (by kernel_rfl) (by rfl) (by rfl) rfl ⟨rfl, below_setRow b3 gw _⟩
 | true =>
  have hd : dim < 0 ∨ 7 ≤ dim := by
   rcases h with h | h
   ·rw [hr] at h; cases h
   ·exact h
  have n0 : (dim == 0) = false := by rw [beq_eq_false_iff_ne]; omega
  have n1 : (dim == 1) = false := by rw [beq_eq_false_iff_ne]; omega
  have n2 : (dim == 2) = false := by rw [beq_eq_false_iff_ne]; omega
  have n3 : (dim == 3) = false := by rw [beq_eq_false_iff_ne]; omega
  have n4 : (dim == 4) = false := by rw [beq_eq_false_iff_ne]; omega
  have n5 : (dim == 5) = false := by rw [beq_eq_false_iff_ne]; omega
  have n6 : (dim == 6) = false := by rw [beq_eq_false_iff_ne]; omega
  clear h hd
  go_wp2_with (refine wpList_st rfl 86 _ _ rfl W1.heap.size z3 z3 (by rfl) (by rfl) B4 (by kernel_rfl) rfl (by kernel_rfl) ?_)
  exact ret_cell_tmp (k := 4) (j := 5) Tryz.f32 (by kernel_rfl) (B4.set _) Tryz.underlying86 (by kernel_rfl) (by rfl) (by rfl) rfl ⟨rfl, below_setRow b3 gw _⟩
theorem rspot_ck (k : Ky) (dim : Int) (w : World) (ho : k.ok) :
  Calls Tryz.prog 32 #[.agg k.v, .int .i64 dim] w fun e w' => e = .returned (.tuple #[.agg (spotR k dim).1.v, .bool (spotR k dim).2]) ∧ Below w.heap.size w w' := by
 by_cases h : k.right = true ∧ 0 ≤ dim ∧ dim < 7
 ·unfold spotR
  rw [if_pos h]
  obtain ⟨hr, h1, h2⟩ := h
  obtain ⟨d, rfl⟩ : ∃ d : Nat, dim = (d : Int) := ⟨dim.toNat, by omega⟩
  rw [Int.toNat_natCast]
  match d, (show d < 7 by omega) with
  | 0, _ => exact rspot_0 k w ho hr
  | 1, _ => exact rspot_1 k w ho hr
  | 2, _ => exact rspot_2 k w ho hr
  | 3, _ => exact rspot_3 k w ho hr
  | 4, _ => exact rspot_4 k w ho hr
  | 5, _ => exact rspot_5 k w ho hr
  | 6, _ => exact rspot_6 k w ho hr
 ·unfold spotR
  rw [if_neg h]
  refine rspot_not k dim w ho ?_
  cases hr : k.right with
  | false => exact .inl rfl
  | true => exact .inr (by have : ¬ (0 ≤ dim ∧ dim < 7) := fun x => h ⟨hr, x⟩; omega)
end Go.Proofs.YtmfgjicfdjjihaaGreatDoor
