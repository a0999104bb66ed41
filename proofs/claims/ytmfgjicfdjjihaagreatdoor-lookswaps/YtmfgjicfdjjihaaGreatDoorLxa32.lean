/- Texts joined: RfI -/
import Derived.Test.YtmfgjicfdjjihaaGreatDoorLxa31
namespace Go.Proofs.YtmfgjicfdjjihaaGreatDoor
open Go.RowKit
set_option linter.unusedVariables false
set_option linter.unusedSimpArgs false
theorem cls_dim (l : List Rl) {j : Nat} (hj : j < 7) : ∀ n, (clsN l n)[j]? = some (setsD l j)
 | 0 => by
  show ((List.range 7).map (setsD l))[j]? = _
  rw [List.getElem?_map, List.getElem?_range hj]; rfl
 | n + 1 => by rw [cls_succ, List.getElem?_append_left (by rw [cls_len]; omega)]; exact cls_dim l hj n
theorem cls_crs (l : List Rl) {k : Nat} : ∀ n, k < n → (clsN l n)[7 + k]? = some (setsL (crossL (sA l k) (sB l k)))
 | 0, h => by omega
 | n + 1, h => by
  rw [cls_succ]
  by_cases e : k = n
  ·subst e
   rw [List.getElem?_append_right (by rw [cls_len]; omega), cls_len, Nat.sub_self]; rfl
  ·rw [List.getElem?_append_left (by rw [cls_len]; omega)]; exact cls_crs l n (by omega)
/-- What is known of the crosses so far. -/
def CrsIs (l : List Rl) (X : List CrM) : Prop := ∀ (j : Nat) (x : CrM), X[j]? = some x → x.wd = (sB l j).length ∧ x.K = classL (crossL (sA l j) (sB l j)) ∧ x.S = setsL (crossL (sA l j) (sB l j))
def DimIs (l : List Rl) (D : List ChM) : Prop := ∀ (j : Nat) (x : ChM), D[j]? = some x → CutP l j x.L x.K x.S
theorem dim_snoc {l : List Rl} {D : List ChM} {d : Nat} (h : DimIs l D) (hl : D.length = d) {x : ChM} (hx : CutP l d x.L x.K x.S) : DimIs l (D ++ [x]) ∧ (D ++ [x]).length = d + 1 := by
 refine ⟨fun j z hz => ?_, by rw [List.length_append, hl]; rfl⟩
 by_cases hj : j < d
 ·rw [List.getElem?_append_left (by rw [hl]; exact hj)] at hz
  exact h j z hz
 ·rw [List.getElem?_append_right (by rw [hl]; omega), hl] at hz
  have hj0 : j - d = 0 := by
   have := (List.getElem?_eq_some_iff.1 hz).1
   simp at this
   omega
  rw [hj0] at hz
  cases hz
  rw [show j = d by omega]
  exact hx
theorem crs_snoc {l : List Rl} {X : List CrM} {n : Nat} (h : CrsIs l X) (hl : X.length = n) {x : CrM} (hx : x.wd = (sB l n).length ∧ x.K = classL (crossL (sA l n) (sB l n)) ∧ x.S = setsL (crossL (sA l n) (sB l n))) : CrsIs l (X ++ [x]) ∧ (X ++ [x]).length = n + 1 := by
 refine ⟨fun j z hz => ?_, by rw [List.length_append, hl]; rfl⟩
 by_cases hj : j < n
 ·rw [List.getElem?_append_left (by rw [hl]; exact hj)] at hz
  exact h j z hz
 ·rw [List.getElem?_append_right (by rw [hl]; omega), hl] at hz
  have hj0 : j - n = 0 := by
   have := (List.getElem?_eq_some_iff.1 hz).1
   simp at this
   omega
  rw [hj0] at hz
  cases hz
  rw [show j = n by omega]
  exact hx
/-- A side's sets in the tables. -/
theorem rside_any (l : List Rl) (w : World) (B : Nat) (da : Option Addr) (dc : Nat) (D : List ChM) (xa : Option Addr) (xc : Nat) (X : List CrM) (v2 : Value) (n : Nat) (hn : n ≤ 6) (hD : OwnD w B da dc D) (hD7 : D.length = 7) (hdi : DimIs l D) (hX : OwnX w B xa xc X) (hXn : X.length = n) (hcr : CrsIs l X) (j : Nat) (A : List (List Nat)) (hj : (clsN l n)[j]? = some A) :
  ∃ sa sc vs, SetsO w B sa sc A vs ∧ ∀ W, Below w.heap.size w W → Calls Tryz.prog 44 #[.agg #[.slice da 7 dc, .slice xa n xc, v2], .int .i64 (j : Int)] W fun e w' => e = .returned (.slice sa A.length sc) ∧ Below W.heap.size W w' := by
 have hjl : j < 7 + n := by have := (List.getElem?_eq_some_iff.1 hj).1; rwa [cls_len] at this
 by_cases h7 : j < 7
 ·rw [cls_dim l h7] at hj
  cases hj
  obtain ⟨x, hx⟩ : ∃ x, D[j]? = some x := ⟨_, List.getElem?_eq_getElem (by omega)⟩
  have e : x.S = setsD l j := (hdi j x hx).set
  refine ⟨x.sa, x.sc, x.vs, ?_, fun W hb => ?_⟩
  ·rw [← e]; exact (hD.each x (List.mem_of_getElem? hx)).set
  ·rw [← e]
   exact rsets_dim W B da 7 dc _ _ D (hD.below hb) hD7 j h7 x hx
 ·obtain ⟨k, rfl⟩ : ∃ k, j = 7 + k := ⟨j - 7, by omega⟩
  rw [cls_crs l n (by omega)] at hj
  cases hj
  obtain ⟨x, hx⟩ : ∃ x, X[k]? = some x := ⟨_, List.getElem?_eq_getElem (by omega)⟩
  have e := (hcr k x hx).2.2
  refine ⟨x.sa, x.sc, x.vs, ?_, fun W hb => ?_⟩
  ·rw [← e]; exact (hX.each x (List.mem_of_getElem? hx)).s
  ·rw [← e]
   exact rsets_crs W B xa n xc _ _ X (hX.below hb) hXn hn k x hx (7 + k) rfl
/-- A cross that grows: its cells' block lies apart from its sets'. -/
structure CrJ (w : World) (B : Nat) (ka : Option Addr) (kc : Nat) (K : List Nat) (sa : Option Addr) (sc : Nat) (S : List (List Nat)) (vs : List Value) : Prop where
 i : OwnI w B ka kc K
 s : SetsO w B sa sc S vs
 apt : Apt (ka.map (·.block)) vs
theorem CrJ.nil (w : World) (B : Nat) : CrJ w B none 0 [] none 0 [] [] := ⟨OwnI.nil _ _, SetsO.nil _ _, Apt.nil _⟩
theorem CrJ.below {w w' : World} {B : Nat} {ka : Option Addr} {kc : Nat} {K : List Nat} {sa : Option Addr} {sc : Nat} {S : List (List Nat)} {vs : List Value} (h : CrJ w B ka kc K sa sc S vs) (hb : Below w.heap.size w w') : CrJ w' B ka kc K sa sc S vs := ⟨h.i.below hb, h.s.below hb, h.apt⟩
theorem CrJ.put {w w0 w' : World} {B : Nat} {ka : Option Addr} {kc : Nat} {K : List Nat} {sa : Option Addr} {sc : Nat} {S : List (List Nat)} {vs : List Value} (h0 : OwnI w0 B ka kc K) (h : CrJ w B ka kc K sa sc S vs) (hb : Below w.heap.size w w') {sa' : Option Addr} {sc' : Nat} {S' : List (List Nat)} {vs' : List Value} (hs : SetsO w' B sa' sc' S' vs') {ya : Option Addr} {yn yc : Nat} (hv : ∀ v ∈ vs', v ∈ vs ∨ v = Value.slice ya yn yc) (hy : ∀ y, ya = some y → w0.heap.size ≤ y.block) : CrJ w' B ka kc K sa' sc' S' vs' := by
 refine ⟨h.i.below hb, hs, fun v hvm ai n ci e hx => ?_⟩
 rcases hv v hvm with h1 | h1
 ·exact h.apt v h1 ai n ci e hx
 ·rw [e] at h1
  cases h1
  have h2 := hy _ rfl
  have h3 := (own_lt h0 _ hx).2
  omega
theorem CrJ.more {w w' : World} {B : Nat} {ka : Option Addr} {kc : Nat} {K : List Nat} {sa : Option Addr} {sc : Nat} {S : List (List Nat)} {vs : List Value} (h : CrJ w B ka kc K sa sc S vs) {g c' y : Nat} (ho : OwnI w' B (some ⟨g, 0, none⟩) c' (K ++ [y])) (hg : w.grownBy w' (ka.map (·.block))) (hat : ka.map (·.block) = some g ∨ g = w.heap.size) : CrJ w' B (some ⟨g, 0, none⟩) c' (K ++ [y]) sa sc S vs := by
 refine ⟨ho, h.s.far hg ?_ ?_, ?_⟩
 ·cases hsa : sa with
  | none => exact .inl rfl
  | some ad =>
   refine .inr fun e => ?_
   have h1 := ownsRow_blk h.i (g := ad.block) (by rw [slice_blk]; exact e)
   have h2 := ownsRow_blk h.s.row (g := ad.block) (by rw [slice_blk, hsa]; rfl)
   obtain ⟨c1, h1⟩ := h1
   obtain ⟨c2, h2⟩ := h2
   exact absurd (h1.ty h2) (by decide)
 ·intro i s ai ci hS hv y hy e
  subst hy
  exact h.apt _ (List.mem_of_getElem? hv) y _ _ rfl e
 ·intro v hv ai n ci e hx
  have hgg : g = ai.block := Option.some.inj hx
  rcases hat with h1 | h1
  ·exact h.apt v hv ai n ci e (by rw [h1, hgg])
  ·obtain ⟨a2, c2, s2, e2, h2, _⟩ := h.s.inner hv
   rw [e] at e2
   simp only [Value.slice.injEq] at e2
   have := (OwnI.lt h2 ai e2.1.symm).2.1
   omega
set_option maxRecDepth 100000 in
set_option maxHeartbeats 16000000 in
theorem rcompile_main (a : Option Addr) (c : Nat) (l : List Rl) (budget : Int) (w : World) (hrow : RowR w a l) (he : errC l 0 = 0) (hbg : 0 ≤ budget) (hbg' : budget ≤ 4096) :
  Calls Tryz.prog 18 #[.slice a l.length c, .int .i64 budget] w fun e w' => CompGot l (if budget < (costN l 6 : Int) then 18 else 0) w.heap.size e w' ∧ Below w.heap.size w w' := by
 have hl : l.length ≤ 64 := by obtain ⟨_, _, _, h, _⟩ := err_ok he; exact h
 have HL : Hid (l.length ≤ 64) := hl
 have KC : Hid (∀ (d : Nat), d < 7 → ∀ W, Below w.heap.size w W → Calls Tryz.prog 43 #[.slice a l.length c, .int .i64 (d : Int)] W fun e w' => ∃ x : ChM, e = .returned (.tuple #[.agg x.v, .int .i64 0]) ∧ x.own w' w.heap.size ∧ CutP l d x.L x.K x.S ∧ Below W.heap.size W w') := fun d hd W hb => by
  refine (rcut_ok a c l (d : Int) W (hrow.low hb) (by rw [errC_dim l hd]; exact he)).mono ?_
  rintro e w' ⟨g1, c1, ka, kc, sa, sc, vs, L, K, S, rfl, hc, hp, hb'⟩
  rw [Int.toNat_natCast] at hp
  exact ⟨⟨g1, c1, ka, kc, sa, sc, vs, L, K, S⟩, rfl, hc.base hb.size, hp, hb'⟩
 obtain ⟨N, hN⟩ : ∃ N, l.length = N := ⟨_, rfl⟩
 rw [hN] at KC hl ⊢
 obtain ⟨E, hE⟩ : ∃ E, (if budget < (costN l 6 : Int) then (18 : Int) else 0) = E := ⟨_, rfl⟩
 have HE : Hid ((if budget < (costN l 6 : Int) then (18 : Int) else 0) = E) := hE
 rw [hE]
 obtain ⟨W1, hW1⟩ : ∃ W1, w.alloc (.cells zc3 26) = W1 := ⟨_, rfl⟩
 have hst : (Instr.storeAt 26 (.pointer (some ⟨W1.heap.size, 0, none⟩)) (.agg zc3)).run Tryz.prog (W1.alloc (.cells zc3 26)) = .ok () (W1.alloc (.cells zc3 26)) := run_storeAt_new (P := Tryz.prog) W1 26 zc3 _ (by kernel_rfl) rfl (by kernel_rfl)
 obtain ⟨W2, hW2⟩ : ∃ W2, W1.alloc (.cells zc3 26) = W2 := ⟨_, rfl⟩
 rw [hW2] at hst
 have b1 := bel_nw hW1
 have b2 := bel_al b1 hW2
 have HG4 : Hid (Blk W2 w.heap.size 26 zc3) := (blk_nw hW1).al hW2
 have HG6 : Hid (Blk W2 W1.heap.size 26 zc3) := blk_nw hW2
 have HLT : Hid (w.heap.size < W1.heap.size) := (blk_nw hW1).lt
 have d1 : decide (budget < 0) = false := by simp; omega
 have d2 : decide (budget > 4096) = false := by simp; omega
 clear hrow he hN hE
 go_enter Tryz.func18, Tryz.ntmps18
 go_wp2_with (first | (refine wpList_store_new _ _ rfl _ _ _ rfl _ _ rfl rfl hst ?_))
 clear d1 d2 hW1 hW2 hst
 go_loopw [7, 8] (fun v7 i wr => ∃ (d q : Nat) (da : Option Addr) (dc : Nat) (D : List ChM), d ≤ 7 ∧ v7 = .int .i64 (q : Int) ∧ i = .int .i64 d ∧ q ≤ d * 129 ∧ Hid (costD l d = q) ∧ Hid (OwnD wr w.heap.size da dc D) ∧ Hid (Blk wr W1.heap.size 26 #[.slice da d dc, .slice none 0 0, .slice none 0 0]) ∧ Hid (Blk wr w.heap.size 26 zc3) ∧ Hid (DimIs l D ∧ D.length = d) ∧ Below w.heap.size w wr) (fun _ i _ => 7 - (intOf i).toNat)
 case atStart => exact ⟨0, 0, none, 0, [], by omega, rfl, rfl, by omega, Eq.refl 0, OwnD.nil _ _, HG6, HG4, ⟨fun j x h => by simp at h, rfl⟩, b2⟩
 case round =>
  clear HG4 HG6 b1 b2
  obtain ⟨d, q, da, dc, D, hd, rfl, rfl, hq, HQ, HOD, HG6, HG4, HDL, bw⟩ := hrel
  by_cases hlt : d < 7
  ·have ik : (d : Int) < 7 := by omega
   have hw1 : IntKind.i64.wrap ((d : Int) + 1) = ((d + 1 : Nat) : Int) := by simp [IntKind.wrap, IntKind.bits, IntKind.signed]; omega
   have K1 : Hid _ := KC.out d hlt wr bw
   go_wp2_with fail
   refine Calls.mono K1.out ?_
   rintro e V2 ⟨x, rfl, hx, hp, q2⟩
   have bw2 := bel_tr bw q2
   have HXO : Hid (x.own V2 w.heap.size) := hx
   have HXP : Hid (CutP l d x.L x.K x.S) := hp
   obtain ⟨V3, hV3⟩ : ∃ V3, V2.alloc (.cells x.v 63) = V3 := ⟨_, rfl⟩
   have q3 := bel_nw hV3
   have q23 := bel_tr q2 q3
   have bw3 := bel_tr bw2 q3
   have HB9 : Hid (Blk V3 V2.heap.size 63 x.v) := blk_nw hV3
   have HG6b : Hid (Blk V3 W1.heap.size 26 #[.slice da d dc, .slice none 0 0, .slice none 0 0]) := HG6.out.kept q23
   have HG4b : Hid (Blk V3 w.heap.size 26 zc3) := HG4.out.kept q23
   have HODb : Hid (OwnD V3 w.heap.size da dc D) := HOD.out.below q23
   have HXOb : Hid (x.own V3 w.heap.size) := CutIn.below HXO.out q3
   obtain ⟨V4, hV4⟩ : ∃ V4, V3.alloc (.cells x.v 63) = V4 := ⟨_, rfl⟩
   have q4 := bel_nw hV4
   have bw4 := bel_tr bw3 q4
   obtain ⟨gd, dc', V5, hrun, hod5, htc5, hgr5, q5⟩ := run_appD1 V4 22 w.heap.size da dc D (HODb.out.below q4) x (CutIn.below HXOb.out q4) V3.heap.size 1 63 (blk_nw hV4) (by have := HDL.out.2; omega) bw4.size
   rw [HDL.out.2] at hrun
   have bw5 : Below w.heap.size w V5 := bw4.trans q5
   have HR5 : Hid _ := hrun
   have hg65 : Blk V5 W1.heap.size 26 #[.slice da d dc, .slice none 0 0, .slice none 0 0] := (HG6b.out.kept q4).tc htc5 (by rfl)
   have hg45 : Blk V5 w.heap.size 26 zc3 := (HG4b.out.kept q4).tc htc5 (by rfl)
   have hb95 : Blk V5 V2.heap.size 63 x.v := (HB9.out.kept q4).far hgr5 (fun e => by
    have := (own_lt HOD.out.row _ e).2
    have := q2.size
    omega)
   obtain ⟨V6, hV6⟩ : ∃ V6, V5.setCell ⟨W1.heap.size, 0, none⟩ (.slice (some ⟨gd, 0, none⟩) (d + 1) dc') = V6 := ⟨_, rfl⟩
   have htc6 : Tc (· == 26) V5 V6 := by rw [← hV6]; exact Tc.put hg65 (by rfl) _ _
   have bw6 : Below w.heap.size w V6 := by rw [← hV6]; exact bw5.setCell (Nat.le_of_lt HLT.out) _
   have HG66 : Hid (Blk V6 W1.heap.size 26 #[.slice (some ⟨gd, 0, none⟩) (d + 1) dc', .slice none 0 0, .slice none 0 0]) := by
    have := hg65.put 0 (.slice (some ⟨gd, 0, none⟩) (d + 1) dc')
    rw [hV6] at this
    exact this
   have HG46 : Hid (Blk V6 w.heap.size 26 zc3) := by
    have := hg45.put_other hg65 (Nat.ne_of_lt HLT.out) 0 (.slice (some ⟨gd, 0, none⟩) (d + 1) dc')
    rw [hV6] at this
    exact this
   have hb96 : Blk V6 V2.heap.size 63 x.v := hb95.tc htc6 (by rfl)
   have HOD6 : Hid (OwnD V6 w.heap.size (some ⟨gd, 0, none⟩) dc' (D ++ [x])) := hod5.tc htc6 (by rfl) (by rfl) (by rfl) (by rfl)
   have hs1 : (Tryz.prog.info? 63).map (·.size) = some x.v.size := info_chR x.r
   have hlen : x.L.length = lenD l d := (cutP_rs HXP.out HL.out).2.2
   have hll : x.L.length ≤ 129 := by have := HXP.out.few; have := HL.out; omega
   obtain ⟨ln, hln⟩ : ∃ ln, x.L.length = ln := ⟨_, rfl⟩
   have HCD : Hid (costD l (d + 1) = q + ln) := by show costD l d + lenD l d = _; rw [HQ.out, ← hlen, hln]
   have hqc : IntKind.i64.wrap ((q : Int) + (ln : Int)) = ((q + ln : Nat) : Int) := by rw [wraps_i64 _ (by omega) (by omega)]; omega
   have HDL6 : Hid (DimIs l (D ++ [x]) ∧ (D ++ [x]).length = d + 1) := dim_snoc HDL.out.1 HDL.out.2 HXP.out
   have c60 := (HG6b.out.kept q4).cell 0 _ rfl
   have c60' := HG6b.out.cell 0 _ rfl
   have c65 := hg65.cell 0 _ rfl
   have f65 := hg65.frozen 0
   have at9 := HB9.out.at_
   have c90 := hb96.cell 0 (.slice (some ⟨x.g1, 0, none⟩) x.L.length x.c1) rfl
   rw [hln] at c90 hll
   clear K1 hx hp hrun HOD HG6 HG4 hg65 hg45 hb95 hb96 hod5 htc5 hgr5 htc6 HXOb HXO HODb HG6b HG4b HB9 hlen hln HDL HQ HXP
   go_wp2_with (first
    | (refine wpList_load_at rfl _ _ rfl V2.heap.size 0 (by rfl) _ at9 Tryz.underlying63 hs1 ?_)
    | (refine wpList_rn rfl 22 _ _ rfl _ _ rfl rfl _ _ HR5.out ?_))
   exact ⟨⟨d + 1, q + ln, some ⟨gd, 0, none⟩, dc', D ++ [x], by omega, by first | rfl | (congr 1), by first | rfl | (congr 1), by omega, HCD, HOD6, HG66, HG46, HDL6, bw6⟩, by simp only [intOf]; omega⟩
  ·have hd7 : d = 7 := by omega
   subst hd7
   clear KC
   have HQ0 : Hid (costN l 0 = q) := HQ
   have hq5 : q ≤ 5000 := by omega
   clear hq
   rw [show ((7 : Nat) : Int) = 7 from rfl]
   go_wp2_with fail
   go_loopw [7, 11] (fun v7 i wr => ∃ (n q : Nat) (xa : Option Addr) (xc : Nat) (X : List CrM), n ≤ 6 ∧ v7 = .int .i64 (q : Int) ∧ i = .int .i64 n ∧ q ≤ 5000 ∧ Hid (costN l n = q) ∧ Hid (n = 0 ∨ (q : Int) ≤ budget) ∧ Hid (OwnD wr w.heap.size da dc D) ∧ Hid (OwnX wr w.heap.size xa xc X) ∧ Hid (Blk wr W1.heap.size 26 #[.slice da 7 dc, .slice xa n xc, .slice none 0 0]) ∧ Hid (Blk wr w.heap.size 26 zc3) ∧ Hid (CrsIs l X ∧ X.length = n) ∧ Below w.heap.size w wr) (fun _ i _ => 6 - (intOf i).toNat)
   case atStart => exact ⟨0, q, none, 0, [], by omega, rfl, rfl, hq5, HQ0, Or.inl rfl, HOD, OwnX.nil _ _, HG6, HG4, ⟨fun j x h => by simp at h, rfl⟩, bw⟩
   case round =>
    clear HOD HG6 HG4 HQ HQ0 hq5 bw
    obtain ⟨n, q, xa, xc, X, hn, rfl, rfl, hq, HQ, HNB, HOD, HOX, HG6, HG4, HXL, bw⟩ := hrel
    by_cases hlt : n < 6
    ·have ik : (n : Int) < 6 := by omega
     have hw1 : IntKind.i64.wrap ((n : Int) + 1) = ((n + 1 : Nat) : Int) := by simp [IntKind.wrap, IntKind.bits, IntKind.signed]; omega
     have hA1 : Rs2 (sA l n) ∧ (sA l n).length ≤ 5000 := ⟨cls_rs l HL.out n (by omega) _ (List.mem_of_getElem? (cls_L l hlt)), by have := cls_le l n _ (List.mem_of_getElem? (cls_L l hlt)); rw [HQ.out] at this; omega⟩
     have hA2 : Rs2 (sB l n) ∧ (sB l n).length ≤ 5000 := ⟨cls_rs l HL.out n (by omega) _ (List.mem_of_getElem? (cls_R l hlt)), by have := cls_le l n _ (List.mem_of_getElem? (cls_R l hlt)); rw [HQ.out] at this; omega⟩
     have hcost : costN l (n + 1) = q + (sA l n).length * (sB l n).length := by rw [← HQ.out]; rfl
     have K1 : Hid _ := rsides_any wr n hlt
     have hcL := cls_L l hlt
     have hcR := cls_R l hlt
     obtain ⟨A, hA⟩ : ∃ A, sA l n = A := ⟨_, rfl⟩
     obtain ⟨B, hB⟩ : ∃ B, sB l n = B := ⟨_, rfl⟩
     obtain ⟨P, hP⟩ : ∃ P, sdL n = P := ⟨_, rfl⟩
     obtain ⟨Q, hQ⟩ : ∃ Q, sdR n = Q := ⟨_, rfl⟩
     rw [hA] at hA1 hcost hcL
     rw [hB] at hA2 hcost hcR
     rw [hP] at K1 hcL
     rw [hQ] at K1 hcR
     have HAB : Hid (sA l n = A ∧ sB l n = B) := ⟨hA, hB⟩
     have HRS : Hid (Rs2 A ∧ Rs2 B) := ⟨hA1.1, hA2.1⟩
     obtain ⟨pa, hpa⟩ : ∃ pa, A.length = pa := ⟨_, rfl⟩
     obtain ⟨pb, hpb⟩ : ∃ pb, B.length = pb := ⟨_, rfl⟩
     have HPA : Hid (A.length = pa ∧ B.length = pb) := ⟨hpa, hpb⟩
     rw [hpa] at hA1 hcost
     rw [hpb] at hA2 hcost
     obtain ⟨m, hm⟩ : ∃ m, pa * pb = m := ⟨_, rfl⟩
     have hmle : m ≤ 25000000 := by rw [← hm]; exact Nat.le_trans (Nat.mul_le_mul hA1.2 hA2.2) (by decide)
     have hmul : IntKind.i64.wrap ((pa : Int) * (pb : Int)) = (m : Int) := by
      have e : (pa : Int) * (pb : Int) = (m : Int) := by rw [← hm]; simp
      rw [e]
      exact wraps_i64 _ (by omega) (by omega)
     have HMM0 : Hid (pa * pb = m) := hm
     rw [hm] at hcost
     have HCO : Hid (costN l (n + 1) = q + m) := hcost
     have hpa5 : pa ≤ 5000 := hA1.2
     have hpb5 : pb ≤ 5000 := hA2.2
     have HCLR : Hid ((clsN l n)[P]? = some A ∧ (clsN l n)[Q]? = some B) := ⟨hcL, hcR⟩
     clear hcost hm hpa hpb hA1 hA2 hcL hcR hA hB hP hQ
     go_wp2_with fail
     refine Calls.mono K1.out ?_
     rintro e V2 ⟨rfl, q2⟩
     have q2d : Below wr.heap.size wr V2.drew := bel_tr q2 (below_drew V2)
     have bwd : Below w.heap.size w V2.drew := bel_tr bw q2d
     have HODd : Hid (OwnD V2.drew w.heap.size da dc D) := HOD.out.below q2d
     have HOXd : Hid (OwnX V2.drew w.heap.size xa xc X) := HOX.out.below q2d
     have HGd : Hid (Blk V2.drew W1.heap.size 26 #[.slice da 7 dc, .slice xa n xc, .slice none 0 0]) := HG6.out.kept q2d
     have HG4d : Hid (Blk V2.drew w.heap.size 26 zc3) := HG4.out.kept q2d
     obtain ⟨sa1, sc1, vs1, hso1, kc1⟩ := rside_any l V2.drew w.heap.size da dc D xa xc X (.slice none 0 0) n hn HODd.out HDL.out.2 HDL.out.1 HOXd.out HXL.out.2 HXL.out.1 P A HCLR.out.1
     obtain ⟨sa2, sc2, vs2, hso2, kc2⟩ := rside_any l V2.drew w.heap.size da dc D xa xc X (.slice none 0 0) n hn HODd.out HDL.out.2 HDL.out.1 HOXd.out HXL.out.2 HXL.out.1 Q B HCLR.out.2
     rw [HPA.out.1] at kc1
     rw [HPA.out.2] at kc2
     have KC1 : Hid _ := kc1
     have KC2 : Hid _ := kc2
     have HSO1 : Hid (SetsO V2.drew w.heap.size sa1 sc1 A vs1) := hso1
     have HSO2 : Hid (SetsO V2.drew w.heap.size sa2 sc2 B vs2) := hso2
     have hst : (Tryz.prog.info? 26).map (·.size) = some 3 := by kernel_rfl
     clear K1 q2 q2d kc1 kc2 hso1 hso2 HOD HOX HG6 HG4 bw
     go_wp2_with fail
     refine wp_region_noPanic ?_
     refine wp_region_held_drew (S := fun w'' => Blk w'' W1.heap.size 26 #[.slice da 7 dc, .slice xa n xc, .slice none 0 0]) (by kernel_rfl) HGd.out (fun hHeld => ?_)
     refine qty (i := 0) (oi := { dst := some 66, op := Op.load 26 (.tmp 6), type := 26, pos := "ref.go:78", after := #[], guard := none }) (v := (.agg #[.slice da 7 dc, .slice xa n xc, .slice none 0 0])) (yieldsIf_at (by rfl) _ _ rfl W1.heap.size 0 (by rfl) _ (fun _ h => h.at_) Tryz.underlying26 hst) hHeld ?_
     try simp only [qpu]
     refine qtk (i := 1) (oi := { dst := some 67, op := Op.move (.tmp 12), type := 3, pos := "ref.go:78", after := #[], guard := none }) (v := (.int .i64 (P : Int))) hHeld ?_ ?_
     ·intro w9 hSw
      try dsimp only at hSw
      go_simp
     try simp only [qpu]
     refine qty (i := 3) (oi := { dst := some 69, op := Op.load 26 (.tmp 6), type := 26, pos := "ref.go:78", after := #[], guard := none }) (v := (.agg #[.slice da 7 dc, .slice xa n xc, .slice none 0 0])) (yieldsIf_at (by rfl) _ _ rfl W1.heap.size 0 (by rfl) _ (fun _ h => h.at_) Tryz.underlying26 hst) hHeld ?_
     try simp only [qpu]
     refine qtk (i := 4) (oi := { dst := some 70, op := Op.move (.tmp 13), type := 3, pos := "ref.go:78", after := #[], guard := none }) (v := (.int .i64 (Q : Int))) hHeld ?_ ?_
     ·intro w9 hSw
      try dsimp only at hSw
      go_simp
     try simp only [qpu]
     refine wpAnyH_ready (rs := [2]) (by kernel_rfl) (by simp) ?_
     refine AllReadyH.cons (o := { dst := some 68, op := Op.call { callee := Callee.value (.func 44), args := #[.tmp 66, .tmp 67], argTypes := #[26, 3] }, type := 58, pos := "ref.go:78", after := #[{ on := 0, ground := Ground.data }, { on := 1, ground := Ground.data }], guard := none }) rfl (fun K hK => ?_) AllReadyH.nil
     go_simp
     refine Calls.mono (KC1.out _ (Below.refl _ _)) ?_
     rintro e V3 ⟨rfl, q3⟩
     have HG3 : Hid (Blk V3 W1.heap.size 26 #[.slice da 7 dc, .slice xa n xc, .slice none 0 0]) := HGd.out.kept q3
     refine hK.out _ _ HG3.out (fun hHeld => ?_)
     clear hK K
     try simp only [qpu]
     refine wpAnyH_ready (rs := [5]) (by kernel_rfl) (by simp) ?_
     refine AllReadyH.cons (o := { dst := some 71, op := Op.call { callee := Callee.value (.func 44), args := #[.tmp 69, .tmp 70], argTypes := #[26, 3] }, type := 58, pos := "ref.go:78", after := #[{ on := 3, ground := Ground.data }, { on := 4, ground := Ground.data }, { on := 2, ground := Ground.chain }], guard := none }) rfl (fun K hK => ?_) AllReadyH.nil
     go_simp
     refine Calls.mono (KC2.out _ q3) ?_
     rintro e V4 ⟨rfl, q4⟩
     have q34 := bel_tr q3 q4
     have HG64 : Hid (Blk V4 W1.heap.size 26 #[.slice da 7 dc, .slice xa n xc, .slice none 0 0]) := HGd.out.kept q34
     have HG44 : Hid (Blk V4 w.heap.size 26 zc3) := HG4d.out.kept q34
     have HOD4 : Hid (OwnD V4 w.heap.size da dc D) := HODd.out.below q34
     have HOX4 : Hid (OwnX V4 w.heap.size xa xc X) := HOXd.out.below q34
     have HS14 : Hid (SetsO V4 w.heap.size sa1 sc1 A vs1) := HSO1.out.below q34
     have HS24 : Hid (SetsO V4 w.heap.size sa2 sc2 B vs2) := HSO2.out.below q34
     have bw4 := bel_tr bwd q34
     refine hK.out _ _ HG64.out (fun hHeld => ?_)
     clear hK K q3 q4 q34 HG3 HGd HG4d HODd HOXd HSO1 HSO2 bwd KC1 KC2
     try simp only [qpu]
     refine qtk (i := 6) (oi := { dst := some 14, op := Op.assign (.tmp 68), type := 58, pos := "ref.go:78", after := #[{ on := 2, ground := Ground.data }, { on := 5, ground := Ground.chain }, { on := 0, ground := Ground.phase }, { on := 1, ground := Ground.phase }, { on := 2, ground := Ground.phase }, { on := 3, ground := Ground.textOnly Departure.lateStores }, { on := 4, ground := Ground.textOnly Departure.lateStores }, { on := 5, ground := Ground.textOnly Departure.lateStoresUnsure }], guard := none }) (v := (.slice sa1 pa sc1)) hHeld ?_ ?_
     ·intro w9 hSw
      try dsimp only at hSw
      go_simp
     try simp only [qpu]
     refine qtk (i := 7) (oi := { dst := some 15, op := Op.assign (.tmp 71), type := 58, pos := "ref.go:78", after := #[{ on := 5, ground := Ground.data }, { on := 6, ground := Ground.chain }, { on := 0, ground := Ground.phase }, { on := 1, ground := Ground.phase }, { on := 2, ground := Ground.phase }, { on := 3, ground := Ground.phase }, { on := 4, ground := Ground.phase }, { on := 5, ground := Ground.phase }, { on := 6, ground := Ground.phase }], guard := none }) (v := (.slice sa2 pb sc2)) hHeld ?_ ?_
     ·intro w9 hSw
      try dsimp only at hSw
      go_simp
     try simp only [qpu]
     refine wpAnyH_done (by kernel_rfl) ?_ _
     refine NoPanic.normal ?_
     have hq0 : (0 : Int) ≤ (q : Int) := by omega
     have hm0 : (0 : Int) ≤ (m : Int) := by omega
     by_cases hbd : budget < (q : Int) + (m : Int)
     ·have HE18 : Hid (E = 18) := by
       show _ = _
       have h1 := cost_le l (n + 1) 6 (by omega)
       rw [HCO.out] at h1
       rw [← HE.out, if_pos (by omega)]
      have RB := HG44.out
      go_wp2_with (refine wpList_st rfl 26 _ _ rfl w.heap.size zc3 zc3 (by rfl) (by rfl) RB (by kernel_rfl) rfl (by kernel_rfl) ?_)
      exact ret_cell_tmp (k := 4) (j := 5) Tryz.f18 (by kernel_rfl) (RB.set _) Tryz.underlying26 (by kernel_rfl) (by rfl) (by rfl) rfl ⟨Or.inl ⟨by rw [HE18.out]; decide, by rw [HE18.out]; rfl⟩, below_setRow bw4 (Nat.le_refl _) _⟩
     ·have hbd' : (q : Int) + (m : Int) ≤ budget := by omega
      have HQM : Hid (q + m ≤ 5000) := by show _ ≤ _; omega
      have HQE : Hid (costN l (n + 1) = q + m) := HCO
      have HQB : Hid (n + 1 = 0 ∨ ((q + m : Nat) : Int) ≤ budget) := Or.inr (by omega)
      have HM4 : Hid (A.length * B.length ≤ 4096) := by show _ ≤ _; rw [HPA.out.1, HPA.out.2, HMM0.out]; omega
      have hst16 : (Instr.storeAt 60 (.pointer (some ⟨V4.heap.size, 0, none⟩)) (.agg #[.int .i64 (pb : Int), .slice none 0 0, .slice none 0 0])).run Tryz.prog (V4.alloc (.cells zx3 60)) = .ok () (V4.alloc (.cells #[.int .i64 (pb : Int), .slice none 0 0, .slice none 0 0] 60)) := run_storeAt_new (P := Tryz.prog) V4 60 zx3 _ (by kernel_rfl) rfl (by kernel_rfl)
      obtain ⟨V5, hV5⟩ : ∃ V5, V4.alloc (.cells #[.int .i64 (pb : Int), .slice none 0 0, .slice none 0 0] 60) = V5 := ⟨_, rfl⟩
      rw [hV5] at hst16
      have q5 := bel_nw hV5
      have HX5 : Hid (Blk V5 V4.heap.size 60 #[.int .i64 (pb : Int), .slice none 0 0, .slice none 0 0]) := blk_nw hV5
      have HRA : Hid (RowS V4 sa1 (A.map ints)) := HS14.out.rows (by rw [HPA.out.1]; omega) (fun s hs => by have := rs_len (HRS.out.1 s hs); omega)
      have HRB : Hid (RowS V4 sa2 (B.map ints)) := HS24.out.rows (by rw [HPA.out.2]; omega) (fun s hs => by have := rs_len (HRS.out.2 s hs); omega)
      have HST : Hid (∀ (i k : Nat) (s t : List Nat), A[i]? = some s → B[k]? = some t → preX A B (i * pb + (k + 1)) = preX A B (i * pb + k) ++ [bothL s t]) := fun i k s t h h' => by have := preX_step h h'; rw [HPA.out.2] at this; exact this
      have HPAL : Hid (preX A B (pa * pb) = crossL A B) := by have := preX_all A B; rw [HPA.out.1, HPA.out.2] at this; exact this
      have HPL : Hid (∀ q, (classL (preX A B q)).length ≤ 4096 ∧ (setsL (preX A B q)).length ≤ 4096) := fun q => preX_len q HM4.out
      have HPR : Hid (∀ q, Rs2 (setsL (preX A B q))) := fun q => preX_rs HRS.out.1 HRS.out.2 q
      clear hbd hV5 HS14 HS24
      go_wp2_with (first | (refine wpList_store_new _ _ rfl _ _ _ rfl _ _ rfl rfl hst16 ?_))
      clear hst16
      go_loopw [17] (fun vi wr => ∃ (i : Nat) (ka : Option Addr) (kc : Nat) (ua : Option Addr) (uc : Nat) (vs : List Value), i ≤ pa ∧ vi = .int .i64 i ∧ Hid (Blk wr V4.heap.size 60 #[.int .i64 (pb : Int), .slice ka (classL (preX A B (i * pb))).length kc, .slice ua (setsL (preX A B (i * pb))).length uc]) ∧ Hid (CrJ wr V4.heap.size ka kc (classL (preX A B (i * pb))) ua uc (setsL (preX A B (i * pb))) vs) ∧ Below V4.heap.size V4 wr) (fun vi _ => pa - (intOf vi).toNat)
      case atStart =>
       refine ⟨0, none, 0, none, 0, [], Nat.zero_le _, rfl, ?_, ?_, q5⟩
       ·rw [Nat.zero_mul]; exact HX5
       ·rw [Nat.zero_mul]; exact CrJ.nil _ _
      case round =>
       clear HX5 q5
       obtain ⟨i, ka, kc, ua, uc, vs, hi, rfl, HX, HJ, qw⟩ := hrel
       by_cases hia : i < pa
       ·have ii : (i : Int) < (pa : Int) := by omega
        have hwi : IntKind.i64.wrap ((i : Int) + 1) = ((i + 1 : Nat) : Int) := by simp [IntKind.wrap, IntKind.bits, IntKind.signed]; omega
        obtain ⟨s, hs⟩ : ∃ s, A[i]? = some s := ⟨_, List.getElem?_eq_getElem (by rw [HPA.out.1]; exact hia)⟩
        have HSI : Hid (A[i]? = some s) := hs
        have HSR : Hid (Rs s) := HRS.out.1 s (List.mem_of_getElem? hs)
        clear hs
        go_wp2_with fail
        go_loopw [18] (fun vk wr => ∃ (k : Nat) (ka : Option Addr) (kc : Nat) (ua : Option Addr) (uc : Nat) (vs : List Value), k ≤ pb ∧ vk = .int .i64 k ∧ Hid (Blk wr V4.heap.size 60 #[.int .i64 (pb : Int), .slice ka (classL (preX A B (i * pb + k))).length kc, .slice ua (setsL (preX A B (i * pb + k))).length uc]) ∧ Hid (CrJ wr V4.heap.size ka kc (classL (preX A B (i * pb + k))) ua uc (setsL (preX A B (i * pb + k))) vs) ∧ Below V4.heap.size V4 wr) (fun vk _ => pb - (intOf vk).toNat)
        case atStart => exact ⟨0, ka, kc, ua, uc, vs, Nat.zero_le _, rfl, HX, HJ, qw⟩
        case round =>
         clear HX HJ qw
         obtain ⟨k, ka, kc, ua, uc, vs, hk, rfl, HX, HJ, qw⟩ := hrel
         by_cases hkb : k < pb
         ·have kk : (k : Int) < (pb : Int) := by omega
          have hwk : IntKind.i64.wrap ((k : Int) + 1) = ((k + 1 : Nat) : Int) := by simp [IntKind.wrap, IntKind.bits, IntKind.signed]; omega
          have i0 : (0 : Int) ≤ (i : Int) := by omega
          have k0 : (0 : Int) ≤ (k : Int) := by omega
          obtain ⟨t, ht⟩ : ∃ t, B[k]? = some t := ⟨_, List.getElem?_eq_getElem (by rw [HPA.out.2]; exact hkb)⟩
          have HTR : Hid (Rs t) := HRS.out.2 t (List.mem_of_getElem? ht)
          have hst := HST.out i k s t HSI.out ht
          have qd : Below V4.heap.size V4 wr.drew := bel_tr qw (below_drew wr)
          obtain ⟨ba, oa, aa, cva, eaa, hca, hra⟩ := (HRA.out.below qd).cells i (ints s) (by rw [List.getElem?_map, HSI.out]; rfl)
          obtain ⟨bb, ob, ab, cvb, eab, hcb, hrb⟩ := (HRB.out.below qd).cells k (ints t) (by rw [List.getElem?_map, ht]; rfl)
          rw [List.length_map] at hca hcb
          have KB : Hid _ := rboth_any aa ab cva cvb s t wr.drew hra hrb (by have := rs_len HSR.out; omega) (by have := rs_len HTR.out; omega)
          obtain ⟨u, hu⟩ : ∃ u, bothL s t = u := ⟨_, rfl⟩
          have HUR : Hid (Rs u) := by rw [← hu]; exact both_rs HSR.out HTR.out
          rw [hu] at hst KB
          obtain ⟨sl, hsl⟩ : ∃ sl, s.length = sl := ⟨_, rfl⟩
          obtain ⟨tl, htl⟩ : ∃ tl, t.length = tl := ⟨_, rfl⟩
          rw [hsl] at hca KB
          rw [htl] at hcb KB
          obtain ⟨L, hL⟩ : ∃ L, preX A B (i * pb + k) = L := ⟨_, rfl⟩
          have hpl := HPL.out (i * pb + k)
          have hpr := HPR.out (i * pb + k)
          rw [hL] at HX HJ hst hpl hpr
          have hcl : classL (preX A B (i * pb + (k + 1))) = classL L ++ [putN (setsL L) u] := by rw [hst, class_snoc]
          have hss : setsL (preX A B (i * pb + (k + 1))) = putS (setsL L) u := by rw [hst, sets_snoc]
          obtain ⟨K0, hK⟩ : ∃ K0, classL L = K0 := ⟨_, rfl⟩
          obtain ⟨S, hS⟩ : ∃ S, setsL L = S := ⟨_, rfl⟩
          rw [hK] at HX HJ hcl hpl
          rw [hS] at HX HJ hcl hss hpl hpr
          have HCLS : Hid (classL (preX A B (i * pb + (k + 1))) = K0 ++ [putN S u]) := hcl
          have HSSS : Hid (setsL (preX A B (i * pb + (k + 1))) = putS S u) := hss
          have HSL : Hid (S.length ≤ 4096 ∧ K0.length ≤ 4096) := ⟨hpl.2, hpl.1⟩
          have HRSS : Hid (Rs2 S) := hpr
          obtain ⟨sn, hsn⟩ : ∃ sn, S.length = sn := ⟨_, rfl⟩
          obtain ⟨kn, hkn⟩ : ∃ kn, K0.length = kn := ⟨_, rfl⟩
          have HSN : Hid (S.length = sn ∧ K0.length = kn) := ⟨hsn, hkn⟩
          rw [hsn, hkn] at HX
          subst eaa
          subst eab
          have HXd : Hid (Blk wr.drew V4.heap.size 60 #[.int .i64 (pb : Int), .slice ka kn kc, .slice ua sn uc]) := HX.out.kept (below_drew wr)
          have HJd : Hid (CrJ wr.drew V4.heap.size ka kc K0 ua uc S vs) := HJ.out.below (below_drew wr)
          have HJw : Hid (OwnI wr.drew V4.heap.size ka kc K0) := HJd.out.i
          have HCA : Hid (wr.drew.cell? ⟨ba, oa + i, none⟩ = some (.slice aa sl cva)) := hca
          have HCB : Hid (wr.drew.cell? ⟨bb, ob + k, none⟩ = some (.slice ab tl cvb)) := hcb
          clear HX HJ hst hcl hss hpl hpr hsn hkn hK hS hL hu hsl htl ht hra hrb hca hcb
          go_wp2_with fail
          refine wp_region_noPanic ?_
          refine wp_region_held_drew (S := fun w'' => Blk w'' V4.heap.size 60 #[.int .i64 (pb : Int), .slice ka kn kc, .slice ua sn uc] ∧ w''.cell? ⟨ba, oa + i, none⟩ = some (.slice aa sl cva) ∧ w''.cell? ⟨bb, ob + k, none⟩ = some (.slice ab tl cvb)) (by kernel_rfl) ⟨HXd.out, HCA.out, HCB.out⟩ (fun hHeld => ?_)
          refine qtk (i := 0) (oi := { dst := some 99, op := Op.fieldAddr 60 (.tmp 16) 2, type := 0, pos := "ref.go:86", after := #[], guard := none }) (v := (.pointer (some ⟨V4.heap.size, 2, none⟩))) hHeld ?_ ?_
          ·intro w9 hSw
           try dsimp only at hSw
           go_simp
          try simp only [qpu]
          refine qtk (i := 1) (oi := { dst := some 100, op := Op.load 58 (.tmp 99), type := 58, pos := "ref.go:86", after := #[{ on := 0, ground := Ground.data }], guard := none }) (v := (.slice ua sn uc)) hHeld ?_ ?_
          ·intro w9 hSw
           try dsimp only at hSw
           have hcc := hSw.1.cell 2 (.slice ua sn uc) rfl
           go_simp
          try simp only [qpu]
          refine qtk (i := 2) (oi := { dst := some 101, op := Op.move (.tmp 14), type := 58, pos := "ref.go:86", after := #[], guard := none }) (v := (.slice (some ⟨ba, oa, none⟩) pa sc1)) hHeld ?_ ?_
          ·intro w9 hSw
           try dsimp only at hSw
           go_simp
          try simp only [qpu]
          refine qtk (i := 3) (oi := { dst := some 102, op := Op.move (.tmp 17), type := 3, pos := "ref.go:86", after := #[], guard := none }) (v := (.int .i64 (i : Int))) hHeld ?_ ?_
          ·intro w9 hSw
           try dsimp only at hSw
           go_simp
          try simp only [qpu]
          refine qtk (i := 4) (oi := { dst := some 103, op := Op.indexAddr 58 (.tmp 101) (.tmp 102), type := 0, pos := "ref.go:86", after := #[{ on := 2, ground := Ground.data }, { on := 3, ground := Ground.data }], guard := none }) (v := (.pointer (some ⟨ba, oa + i, none⟩))) hHeld ?_ ?_
          ·intro w9 hSw
           try dsimp only at hSw
           go_simp
          try simp only [qpu]
          refine qtk (i := 5) (oi := { dst := some 104, op := Op.load 24 (.tmp 103), type := 24, pos := "ref.go:86", after := #[{ on := 4, ground := Ground.data }], guard := none }) (v := (.slice aa sl cva)) hHeld ?_ ?_
          ·intro w9 hSw
           try dsimp only at hSw
           have hcc := hSw.2.1
           go_simp
          try simp only [qpu]
          refine qtk (i := 6) (oi := { dst := some 105, op := Op.move (.tmp 15), type := 58, pos := "ref.go:86", after := #[], guard := none }) (v := (.slice (some ⟨bb, ob, none⟩) pb sc2)) hHeld ?_ ?_
          ·intro w9 hSw
           try dsimp only at hSw
           go_simp
          try simp only [qpu]
          refine qtk (i := 7) (oi := { dst := some 106, op := Op.move (.tmp 18), type := 3, pos := "ref.go:86", after := #[], guard := none }) (v := (.int .i64 (k : Int))) hHeld ?_ ?_
          ·intro w9 hSw
           try dsimp only at hSw
           go_simp
          try simp only [qpu]
          refine qtk (i := 8) (oi := { dst := some 107, op := Op.indexAddr 58 (.tmp 105) (.tmp 106), type := 0, pos := "ref.go:86", after := #[{ on := 6, ground := Ground.data }, { on := 7, ground := Ground.data }], guard := none }) (v := (.pointer (some ⟨bb, ob + k, none⟩))) hHeld ?_ ?_
          ·intro w9 hSw
           try dsimp only at hSw
           go_simp
          try simp only [qpu]
          refine qtk (i := 9) (oi := { dst := some 108, op := Op.load 24 (.tmp 107), type := 24, pos := "ref.go:86", after := #[{ on := 8, ground := Ground.data }], guard := none }) (v := (.slice ab tl cvb)) hHeld ?_ ?_
          ·intro w9 hSw
           try dsimp only at hSw
           have hcc := hSw.2.2
           go_simp
          try simp only [qpu]
          refine wpAnyH_ready (rs := [10]) (by kernel_rfl) (by simp) ?_
          refine AllReadyH.cons (o := { dst := some 109, op := Op.call { callee := Callee.value (.func 46), args := #[.tmp 104, .tmp 108], argTypes := #[24, 24] }, type := 24, pos := "ref.go:86", after := #[{ on := 5, ground := Ground.data }, { on := 9, ground := Ground.data }], guard := none }) rfl (fun K hK => ?_) AllReadyH.nil
          go_simp
          refine Calls.mono KB.out ?_
          rintro e X3 ⟨ya, yc, rfl, hoy, q3⟩
          have HX3 : Hid (Blk X3 V4.heap.size 60 #[.int .i64 (pb : Int), .slice ka kn kc, .slice ua sn uc]) := HXd.out.kept q3
          have HJ3 : Hid (CrJ X3 V4.heap.size ka kc K0 ua uc S vs) := HJd.out.below q3
          have HCA3 : Hid (X3.cell? ⟨ba, oa + i, none⟩ = some (.slice aa sl cva)) := kept q3 HCA.out
          have HCB3 : Hid (X3.cell? ⟨bb, ob + k, none⟩ = some (.slice ab tl cvb)) := kept q3 HCB.out
          have HYB : Hid (∀ y, ya = some y → wr.drew.heap.size ≤ y.block) := fun y hy => (OwnI.lt hoy y hy).1
          have HOY : Hid (OwnI X3 V4.heap.size ya yc u) := ownsRow_base hoy qd.size
          have qx3 := bel_tr qd q3
          have KP : Hid _ := rput_any V4.heap.size ua uc S vs ya yc u X3 qx3.size HJ3.out.s HOY.out (by have := HSL.out.1; omega) (fun t ht => by have := rs_len (HRSS.out t ht); omega) (by have := rs_len HUR.out; omega)
          rw [HSN.out.1] at KP
          obtain ⟨ul, hul⟩ : ∃ ul, u.length = ul := ⟨_, rfl⟩
          rw [hul] at KP
          have HUL : Hid (u.length = ul) := hul
          rw [hul]
          clear hoy hul
          refine hK.out _ _ ⟨HX3.out, HCA3.out, HCB3.out⟩ (fun hHeld => ?_)
          clear hK K
          try simp only [qpu]
          refine wpAnyH_ready (rs := [11]) (by kernel_rfl) (by simp) ?_
          refine AllReadyH.cons (o := { dst := some 110, op := Op.call { callee := Callee.value (.func 45), args := #[.tmp 100, .tmp 109], argTypes := #[58, 24] }, type := 106, pos := "ref.go:86", after := #[{ on := 1, ground := Ground.data }, { on := 10, ground := Ground.data }, { on := 10, ground := Ground.chain }], guard := none }) rfl (fun K hK => ?_) AllReadyH.nil
          go_simp
          refine Calls.mono KP.out ?_
          rintro e X4 ⟨sa', sc', vs', rfl, hso, hvs, q4⟩
          have HX4 : Hid (Blk X4 V4.heap.size 60 #[.int .i64 (pb : Int), .slice ka kn kc, .slice ua sn uc]) := HX3.out.kept q4
          have HJ4 : Hid (CrJ X4 V4.heap.size ka kc K0 sa' sc' (putS S u) vs') := CrJ.put HJw.out HJ3.out q4 hso hvs HYB.out
          have HCA4 : Hid (X4.cell? ⟨ba, oa + i, none⟩ = some (.slice aa sl cva)) := kept q4 HCA3.out
          have HCB4 : Hid (X4.cell? ⟨bb, ob + k, none⟩ = some (.slice ab tl cvb)) := kept q4 HCB3.out
          have qx4 := bel_tr qx3 q4
          have HPN : Hid (putN S u ≤ 4096) := by
           show _ ≤ _
           have h1 := putN_get S u
           have h2 := (List.getElem?_eq_some_iff.1 h1).1
           have h3 := (HPL.out (i * pb + (k + 1))).2
           rw [HSSS.out] at h3
           omega
          obtain ⟨pn, hpn⟩ : ∃ pn, putN S u = pn := ⟨_, rfl⟩
          obtain ⟨pl, hpl⟩ : ∃ pl, (putS S u).length = pl := ⟨_, rfl⟩
          have HPP : Hid (putN S u = pn ∧ (putS S u).length = pl) := ⟨hpn, hpl⟩
          rw [hpn, hpl]
          clear hso hvs hpn hpl
          refine hK.out _ _ ⟨HX4.out, HCA4.out, HCB4.out⟩ (fun hHeld => ?_)
          clear hK K q3 q4 qx3 HX3 HJ3 HCA3 HCB3 HCA4 HCB4 KP KB HXd HJd HCA HCB
          try simp only [qpu]
          refine qtk (i := 12) (oi := { dst := some 98, op := Op.move (.tmp 110), type := 106, pos := "ref.go:86", after := #[{ on := 11, ground := Ground.data }], guard := none }) (v := (.tuple #[.int .i64 (pn : Int), .slice sa' pl sc'])) hHeld ?_ ?_
          ·intro w9 hSw
           try dsimp only at hSw
           go_simp
          try simp only [qpu]
          refine qtk (i := 13) (oi := { dst := some 111, op := Op.extract (.tmp 98) 0, type := 3, pos := "ref.go:86", after := #[{ on := 12, ground := Ground.data }], guard := none }) (v := (.int .i64 (pn : Int))) hHeld ?_ ?_
          ·intro w9 hSw
           try dsimp only at hSw
           go_simp
          try simp only [qpu]
          refine qtk (i := 14) (oi := { dst := some 112, op := Op.extract (.tmp 98) 1, type := 58, pos := "ref.go:86", after := #[{ on := 12, ground := Ground.data }, { on := 15, ground := Ground.gcOnly Departure.lateStores }], guard := none }) (v := (.slice sa' pl sc')) hHeld ?_ ?_
          ·intro w9 hSw
           try dsimp only at hSw
           go_simp
          try simp only [qpu]
          refine qtk (i := 15) (oi := { dst := some 19, op := Op.assign (.tmp 111), type := 3, pos := "ref.go:86", after := #[{ on := 13, ground := Ground.data }, { on := 11, ground := Ground.chain }, { on := 0, ground := Ground.phase }, { on := 1, ground := Ground.phase }, { on := 2, ground := Ground.phase }, { on := 3, ground := Ground.phase }, { on := 4, ground := Ground.phase }, { on := 5, ground := Ground.phase }, { on := 6, ground := Ground.phase }, { on := 7, ground := Ground.phase }, { on := 8, ground := Ground.phase }, { on := 9, ground := Ground.phase }, { on := 10, ground := Ground.phase }, { on := 11, ground := Ground.phase }, { on := 12, ground := Ground.phase }, { on := 13, ground := Ground.phase }, { on := 14, ground := Ground.textOnly Departure.lateStores }], guard := none }) (v := (.int .i64 (pn : Int))) hHeld ?_ ?_
          ·intro w9 hSw
           try dsimp only at hSw
           go_simp
          try simp only [qpu]
          refine qtk (i := 16) (oi := { dst := some 20, op := Op.assign (.tmp 112), type := 58, pos := "ref.go:86", after := #[{ on := 14, ground := Ground.data }, { on := 15, ground := Ground.chain }, { on := 0, ground := Ground.phase }, { on := 1, ground := Ground.phase }, { on := 2, ground := Ground.phase }, { on := 3, ground := Ground.phase }, { on := 4, ground := Ground.phase }, { on := 5, ground := Ground.phase }, { on := 6, ground := Ground.phase }, { on := 7, ground := Ground.phase }, { on := 8, ground := Ground.phase }, { on := 9, ground := Ground.phase }, { on := 10, ground := Ground.phase }, { on := 11, ground := Ground.phase }, { on := 12, ground := Ground.phase }, { on := 13, ground := Ground.phase }, { on := 14, ground := Ground.phase }, { on := 15, ground := Ground.phase }], guard := none }) (v := (.slice sa' pl sc')) hHeld ?_ ?_
          ·intro w9 hSw
           try dsimp only at hSw
           go_simp
          try simp only [qpu]
          refine wpAnyH_done (by kernel_rfl) ?_ _
          refine NoPanic.normal ?_
          obtain ⟨X5, hX5⟩ : ∃ X5, X4.setCell ⟨V4.heap.size, 2, none⟩ (.slice sa' pl sc') = X5 := ⟨_, rfl⟩
          have hb5 : Blk X5 V4.heap.size 60 #[.int .i64 (pb : Int), .slice ka kn kc, .slice sa' pl sc'] := by
           have := HX4.out.put 2 (.slice sa' pl sc')
           rw [hX5] at this
           exact this
          have htc5 : Tc (· == 60) X4 X5 := by rw [← hX5]; exact Tc.put HX4.out (by rfl) _ _
          have HJ5 : Hid (CrJ X5 V4.heap.size ka kc K0 sa' sc' (putS S u) vs') := ⟨HJ4.out.i.tc htc5 (by rfl), HJ4.out.s.tc htc5 (by rfl) (by rfl), HJ4.out.apt⟩
          have qx5 : Below V4.heap.size V4 X5 := by rw [← hX5]; exact qx4.setCell (Nat.le_refl _) _
          obtain ⟨X6, hX6⟩ : ∃ X6, X5.alloc (.cells #[.int .i64 (pn : Int)] 3) = X6 := ⟨_, rfl⟩
          have q6 := bel_nw hX6
          have qx6 := bel_tr qx5 q6
          have hj6 := HJ5.out.below q6
          obtain ⟨g, kc', X7, hrun, ho, hg, hat, hb7⟩ := run_appI1 X6 24 V4.heap.size ka kc K0 hj6.i X5.heap.size 1 pn 3 (blk_nw hX6) (by have := HSL.out.2; omega) qx6.size
          rw [HSN.out.2] at hrun
          have HR7 : Hid _ := hrun
          have hj7 := hj6.more ho hg hat
          have hbk7 : Blk X7 V4.heap.size 60 #[.int .i64 (pb : Int), .slice ka kn kc, .slice sa' pl sc'] := (hb5.kept q6).tc (Tc.of_own (T := (· == 3)) hg hj6.i (by rfl)) (by rfl)
          have qx7 : Below V4.heap.size V4 X7 := qx6.trans hb7
          obtain ⟨X8, hX8⟩ : ∃ X8, X7.setCell ⟨V4.heap.size, 1, none⟩ (.slice (some ⟨g, 0, none⟩) (kn + 1) kc') = X8 := ⟨_, rfl⟩
          have HX8 : Hid (Blk X8 V4.heap.size 60 #[.int .i64 (pb : Int), .slice (some ⟨g, 0, none⟩) (kn + 1) kc', .slice sa' pl sc']) := by
           have := hbk7.put 1 (.slice (some ⟨g, 0, none⟩) (kn + 1) kc')
           rw [hX8] at this
           exact this
          have htc8 : Tc (· == 60) X7 X8 := by rw [← hX8]; exact Tc.put hbk7 (by rfl) _ _
          have HJ8 : Hid (CrJ X8 V4.heap.size (some ⟨g, 0, none⟩) kc' (K0 ++ [pn]) sa' sc' (putS S u) vs') := ⟨hj7.i.tc htc8 (by rfl), hj7.s.tc htc8 (by rfl) (by rfl), hj7.apt⟩
          have qx8 : Below V4.heap.size V4 X8 := by rw [← hX8]; exact qx7.setCell (Nat.le_refl _) _
          have c4 := HX4.out.cell 2 _ rfl
          have f4 := HX4.out.frozen 2
          have c5 := hb5.cell 1 _ rfl
          have c6 := (hb5.kept q6).cell 1 _ rfl
          have c7 := hbk7.cell 1 _ rfl
          have f7 := hbk7.frozen 1
          clear HX4 HJ4 HJ5 hb5 htc5 q6 qx6 hj6 hrun ho hg hat hb7 hj7 hbk7 qx7 htc8 qx5 qx4
          go_wp2_with (refine wpList_rn rfl 24 _ _ rfl _ _ rfl rfl _ _ HR7.out ?_)
          refine ⟨⟨k + 1, some ⟨g, 0, none⟩, kc', sa', sc', vs', by omega, by first | rfl | (congr 1), ?_, ?_, qx8⟩, by simp only [intOf]; omega⟩
          ·rw [HCLS.out, HSSS.out, List.length_append, HSN.out.2, HPP.out.2]; exact HX8
          ·rw [HCLS.out, HSSS.out, HPP.out.1]; exact HJ8

         ·have kk : ¬ (k : Int) < (pb : Int) := by omega
          have hk' : k = pb := by omega
          have e : i * pb + k = (i + 1) * pb := by rw [hk', Nat.add_mul]; omega
          rw [e] at HX HJ
          clear hk' e
          go_wp2
          exact ⟨⟨i + 1, ka, kc, ua, uc, vs, by omega, by first | rfl | (congr 1), HX, HJ, qw⟩, by simp only [intOf]; omega⟩
       ·have ii : ¬ (i : Int) < (pa : Int) := by omega
        have hi' : i = pa := by omega
        subst hi'
        rw [HPAL.out] at HX HJ
        obtain ⟨K0, hK0⟩ : ∃ K0, classL (crossL A B) = K0 := ⟨_, rfl⟩
        obtain ⟨S0, hS0⟩ : ∃ S0, setsL (crossL A B) = S0 := ⟨_, rfl⟩
        have HKS : Hid (classL (crossL A B) = K0 ∧ setsL (crossL A B) = S0) := ⟨hK0, hS0⟩
        rw [hK0, hS0] at HX HJ
        have bw7 := bel_tr bw4 qw
        have HG67 : Hid (Blk wr W1.heap.size 26 #[.slice da 7 dc, .slice xa n xc, .slice none 0 0]) := HG64.out.kept qw
        have HG47 : Hid (Blk wr w.heap.size 26 zc3) := HG44.out.kept qw
        have HOD7 : Hid (OwnD wr w.heap.size da dc D) := HOD4.out.below qw
        have HOX7 : Hid (OwnX wr w.heap.size xa xc X) := HOX4.out.below qw
        have HOI7 : Hid (OwnI wr w.heap.size ka kc K0) := ownsRow_base HJ.out.i bw4.size
        have HLS7 : Hid (SetsO wr w.heap.size ua uc S0 vs) := HJ.out.s.base bw4.size
        obtain ⟨kn, hkn⟩ : ∃ kn, K0.length = kn := ⟨_, rfl⟩
        obtain ⟨sn, hsn⟩ : ∃ sn, S0.length = sn := ⟨_, rfl⟩
        rw [hkn, hsn] at HX
        obtain ⟨V8, hV8⟩ : ∃ V8, wr.alloc (.cells #[.int .i64 (pb : Int), .slice ka kn kc, .slice ua sn uc] 60) = V8 := ⟨_, rfl⟩
        have q8 := bel_nw hV8
        have bw8 := bel_tr bw7 q8
        obtain ⟨gx, xc', V9, hrun9, hox9, htc9, hgr9, q9⟩ := run_appX1 V8 23 w.heap.size xa xc X (HOX7.out.below q8) ⟨pb, ka, kc, ua, uc, vs, K0, S0⟩ ⟨HOI7.out.below q8, HLS7.out.below q8⟩ wr.heap.size 1 60 (by have := blk_nw hV8; rw [← hkn, ← hsn] at this; exact this) (by have := HXL.out.2; omega) bw8.size
        rw [HXL.out.2] at hrun9
        have HRx : Hid _ := hrun9
        have bw9 : Below w.heap.size w V9 := bw8.trans q9
        have hg68 : Blk V8 W1.heap.size 26 #[.slice da 7 dc, .slice xa n xc, .slice none 0 0] := HG67.out.kept q8
        have hg69 : Blk V9 W1.heap.size 26 #[.slice da 7 dc, .slice xa n xc, .slice none 0 0] := hg68.tc htc9 (by rfl)
        have hg49 : Blk V9 w.heap.size 26 zc3 := (HG47.out.kept q8).tc htc9 (by rfl)
        obtain ⟨VA, hVA⟩ : ∃ VA, V9.setCell ⟨W1.heap.size, 1, none⟩ (.slice (some ⟨gx, 0, none⟩) (n + 1) xc') = VA := ⟨_, rfl⟩
        have htcA : Tc (· == 26) V9 VA := by rw [← hVA]; exact Tc.put hg69 (by rfl) _ _
        have bwA : Below w.heap.size w VA := by rw [← hVA]; exact bw9.setCell (Nat.le_of_lt HLT.out) _
        have HG6A : Hid (Blk VA W1.heap.size 26 #[.slice da 7 dc, .slice (some ⟨gx, 0, none⟩) (n + 1) xc', .slice none 0 0]) := by
         have := hg69.put 1 (.slice (some ⟨gx, 0, none⟩) (n + 1) xc')
         rw [hVA] at this
         exact this
        have HG4A : Hid (Blk VA w.heap.size 26 zc3) := by
         have := hg49.put_other hg69 (Nat.ne_of_lt HLT.out) 1 (.slice (some ⟨gx, 0, none⟩) (n + 1) xc')
         rw [hVA] at this
         exact this
        have HODA : Hid (OwnD VA w.heap.size da dc D) := ((HOD7.out.below q8).tc htc9 (by rfl) (by rfl) (by rfl) (by rfl)).tc htcA (by rfl) (by rfl) (by rfl) (by rfl)
        have HOXA : Hid (OwnX VA w.heap.size (some ⟨gx, 0, none⟩) xc' (X ++ [⟨pb, ka, kc, ua, uc, vs, K0, S0⟩])) := hox9.tc htcA (by rfl) (by rfl) (by rfl)
        have HXLA : Hid (CrsIs l (X ++ [(⟨pb, ka, kc, ua, uc, vs, K0, S0⟩ : CrM)]) ∧ (X ++ [(⟨pb, ka, kc, ua, uc, vs, K0, S0⟩ : CrM)]).length = n + 1) := crs_snoc HXL.out.1 HXL.out.2 (by rw [HAB.out.1, HAB.out.2]; exact ⟨HPA.out.2.symm, hK0.symm, hS0.symm⟩)
        have hsx : (Tryz.prog.info? 60).map (·.size) = some 3 := by kernel_rfl
        have at16 := HX.out.at_
        have c67 := HG67.out.cell 1 _ rfl
        have c68 := hg68.cell 1 _ rfl
        have c69 := hg69.cell 1 _ rfl
        have f69 := hg69.frozen 1
        clear hK0 hS0 hkn hsn hrun9 hox9 htc9 hgr9 q9 hg68 hg69 hg49 htcA HG67 HG47 HOD7 HOX7 HOI7 HLS7 HX HJ q8 bw7 bw8 bw9
        go_wp2_with (first
         | (refine wpList_load_at rfl _ _ rfl V4.heap.size 0 (by rfl) _ at16 Tryz.underlying60 hsx ?_)
         | (refine wpList_rn rfl 23 _ _ rfl _ _ rfl rfl _ _ HRx.out ?_))
        exact ⟨⟨n + 1, q + m, some ⟨gx, 0, none⟩, xc', X ++ [⟨pb, ka, kc, ua, uc, vs, K0, S0⟩], by omega, by first | rfl | (congr 1), by first | rfl | (congr 1), HQM.out, HQE, HQB, HODA, HOXA, HG6A, HG4A, HXLA, bwA⟩, by simp only [intOf]; omega⟩

    ·have hn6 : n = 6 := by omega
     subst hn6
     have HE0 : Hid (E = 0) := by
      show _ = _
      rcases HNB.out with h | h
      ·omega
      ·rw [← HQ.out] at h
       rw [← HE.out, if_neg (by omega)]
     obtain ⟨x5, hx5⟩ : ∃ x, X[5]? = some x := ⟨_, List.getElem?_eq_getElem (by rw [HXL.out.2]; omega)⟩
     have h5S := (HXL.out.1 5 x5 hx5).2.2
     have hS1 : Rs2 x5.S ∧ x5.S.length ≤ 5000 := by
      have hm := List.mem_of_getElem? (cls_crs l 6 (k := 5) (by omega))
      rw [← h5S] at hm
      exact ⟨cls_rs l HL.out 6 (by omega) _ hm, by have := cls_le l 6 _ hm; rw [HQ.out] at this; omega⟩
     obtain ⟨gx, ega, hcx⟩ := own3_cells (v := CrM.v) (fun _ => rfl) HOX.out.row hx5
     have cx := hcx.2 2 (.slice x5.sa x5.S.length x5.sc) rfl
     rw [show 0 + 5 * 3 + 2 = 17 from rfl] at cx
     subst ega
     have HSO0 : Hid (SetsO wr w.heap.size x5.sa x5.sc x5.S x5.vs) := (HOX.out.each x5 (List.mem_of_getElem? hx5)).s
     obtain ⟨S0, hS0⟩ : ∃ S0, x5.S = S0 := ⟨_, rfl⟩
     rw [hS0] at h5S hS1 cx HSO0
     obtain ⟨sa5, hsa5⟩ : ∃ sa5, x5.sa = sa5 := ⟨_, rfl⟩
     rw [hsa5] at cx HSO0
     clear hsa5
     have HS0 : Hid (setsL (crossL (sA l 5) (sB l 5)) = S0) := h5S.symm
     obtain ⟨sn, hsn⟩ : ∃ sn, S0.length = sn := ⟨_, rfl⟩
     have HSN : Hid (S0.length = sn) := hsn
     have HSR : Hid (Rs2 S0) := hS1.1
     have hsn5 : sn ≤ 5000 := by rw [← hsn]; exact hS1.2
     rw [hsn] at cx
     obtain ⟨V0, rfl⟩ : ∃ V0, V0 = wr := ⟨_, rfl⟩
     have HB0 : Hid (Below w.heap.size w V0) := bw
     have HGL : Hid (W1.heap.size < V0.heap.size) := HG6.out.lt
     have c61 := HG6.out.cell 1 _ rfl
     clear hcx h5S hS0 hsn hS1 HQ HNB HE hlt hx5
     rw [show ((6 : Nat) : Int) = 6 from rfl]
     go_wp2_with fail
     clear c61 cx
     go_loopw [22] (fun i wr => ∃ (k : Nat) (fa : Option Addr) (fc : Nat), k ≤ sn ∧ i = .int .i64 k ∧ Hid (Blk wr W1.heap.size 26 #[.slice da 7 dc, .slice (some ⟨gx, 0, none⟩) 6 xc, .slice fa k fc]) ∧ Hid (Blk wr w.heap.size 26 zc3) ∧ Hid (OwnJ wr V0.heap.size fa fc ((S0.take k).map firstN)) ∧ Hid (Tc (· == 26) V0 wr) ∧ Below w.heap.size w wr) (fun i _ => sn - (intOf i).toNat)
     case atStart => exact ⟨0, none, 0, Nat.zero_le _, rfl, HG6, HG4, OwnJ.nil _ _, Tc.refl _ _, bw⟩
     case round =>
      clear HG6 HG4 bw
      obtain ⟨k, fa, fc, hk, rfl, HG6, HG4, HOJ, HTC, bw⟩ := hrel
      by_cases hks : k < sn
      ·have ik : (k : Int) < (sn : Int) := by omega
       have k0 : (0 : Int) ≤ (k : Int) := by omega
       have hw1 : IntKind.i64.wrap ((k : Int) + 1) = ((k + 1 : Nat) : Int) := by simp [IntKind.wrap, IntKind.bits, IntKind.signed]; omega
       obtain ⟨s, hs⟩ : ∃ s, S0[k]? = some s := ⟨_, List.getElem?_eq_getElem (by rw [HSN.out]; exact hks)⟩
       have hrss : RowS wr sa5 (S0.map ints) := (HSO0.out.tc HTC.out (by rfl) (by rfl)).rows (by rw [HSN.out]; omega) (fun s hs => by have := rs_len (HSR.out s hs); omega)
       obtain ⟨b, off, ai, ci, ha, hc, hri⟩ := hrss.cells k (ints s) (by rw [List.getElem?_map, hs]; rfl)
       rw [List.length_map] at hc
       have hsl64 := rs_len (HSR.out s (List.mem_of_getElem? hs))
       have HTK : Hid ((S0.take (k + 1)).map firstN = (S0.take k).map firstN ++ [firstN s]) := by show _ = _; rw [List.take_add_one, hs, List.map_append]; rfl
       obtain ⟨Y, hY⟩ : ∃ Y, firstN s = Y := ⟨_, rfl⟩
       rw [hY] at HTK
       obtain ⟨F0, hF0⟩ : ∃ F0, (S0.take k).map firstN = F0 := ⟨_, rfl⟩
       rw [hF0] at HOJ HTK
       have HFL : Hid (F0.length = k) := by show _ = _; rw [← hF0, List.length_map, List.length_take, HSN.out]; omega
       obtain ⟨V8, hV8⟩ : ∃ V8, wr.alloc (.cells #[.int .i64 Y] 3) = V8 := ⟨_, rfl⟩
       have q8 := bel_nw hV8
       have bw8 := bel_tr bw q8
       have htc8 : Tc (· == 26) V0 V8 := HTC.out.trans (Tc.of_below _ q8)
       obtain ⟨gf, fc', V9, hrun9, hoj9, hgr9, q9⟩ := run_appJ1 V8 24 V0.heap.size fa fc F0 (ownsRow_low HOJ.out q8) wr.heap.size 1 Y 3 (blk_nw hV8) (by have := HFL.out; omega) htc8.size
       rw [HFL.out] at hrun9
       have HRx : Hid _ := hrun9
       have bw9 : Below w.heap.size w V9 := bw8.trans (q9.mono HB0.out.size)
       have hfa : ∀ g, fa.map (·.block) = some g → V0.heap.size ≤ g := fun g hg => (own_lt HOJ.out g hg).1
       have htc9 : Tc (· == 26) V0 V9 := htc8.grown_new hgr9 hfa
       have hg68 : Blk V8 W1.heap.size 26 #[.slice da 7 dc, .slice (some ⟨gx, 0, none⟩) 6 xc, .slice fa k fc] := HG6.out.kept q8
       have hg69 : Blk V9 W1.heap.size 26 #[.slice da 7 dc, .slice (some ⟨gx, 0, none⟩) 6 xc, .slice fa k fc] := hg68.far hgr9 (fun e => by have := hfa _ e; have := HGL.out; omega)
       have hg49 : Blk V9 w.heap.size 26 zc3 := (HG4.out.kept q8).far hgr9 (fun e => by have := hfa _ e; have := HGL.out; have := HLT.out; omega)
       obtain ⟨VA, hVA⟩ : ∃ VA, V9.setCell ⟨W1.heap.size, 2, none⟩ (.slice (some ⟨gf, 0, none⟩) (k + 1) fc') = VA := ⟨_, rfl⟩
       have htcA : Tc (· == 26) V9 VA := by rw [← hVA]; exact Tc.put hg69 (by rfl) _ _
       have bwA : Below w.heap.size w VA := by rw [← hVA]; exact bw9.setCell (Nat.le_of_lt HLT.out) _
       have HG6A : Hid (Blk VA W1.heap.size 26 #[.slice da 7 dc, .slice (some ⟨gx, 0, none⟩) 6 xc, .slice (some ⟨gf, 0, none⟩) (k + 1) fc']) := by
        have := hg69.put 2 (.slice (some ⟨gf, 0, none⟩) (k + 1) fc')
        rw [hVA] at this
        exact this
       have HG4A : Hid (Blk VA w.heap.size 26 zc3) := by
        have := hg49.put_other hg69 (Nat.ne_of_lt HLT.out) 2 (.slice (some ⟨gf, 0, none⟩) (k + 1) fc')
        rw [hVA] at this
        exact this
       have HOJA : Hid (OwnJ VA V0.heap.size (some ⟨gf, 0, none⟩) fc' ((S0.take (k + 1)).map firstN)) := by rw [HTK.out]; exact ownsRow_tc hoj9 htcA (by rfl)
       have HTCA : Hid (Tc (· == 26) V0 VA) := htc9.trans htcA
       have c66 := HG6.out.cell 2 _ rfl
       have c68 := hg68.cell 2 _ rfl
       have c69 := hg69.cell 2 _ rfl
       have f69 := hg69.frozen 2
       have HYE : Hid (firstN s = Y) := hY
       clear hrun9 hoj9 hgr9 q9 hfa htc8 htc9 hg68 hg69 hg49 htcA q8 HG6 HG4 HOJ HTC bw bw8 bw9 hrss hF0 hY hs
       subst ha
       cases s with
       | nil =>
        have hY1 : (-1 : Int) = Y := HYE.out
        subst hY1
        rw [List.length_nil] at hc
        go_wp2_with (refine wpList_rn rfl 24 _ _ rfl _ _ rfl rfl _ _ HRx.out ?_)
        exact ⟨⟨k + 1, some ⟨gf, 0, none⟩, fc', by omega, by first | rfl | (congr 1), HG6A, HG4A, HOJA, HTCA, bwA⟩, by simp only [intOf]; omega⟩
       | cons j r =>
        have hY1 : (j : Int) = Y := HYE.out
        obtain ⟨b', off', ha', hcs⟩ := hri.cells (by simp)
        replace hcs := hcs 0 (by simp)
        have hcs : wr.cell? ⟨b', off', none⟩ = some (.int .i64 Y) := by rw [← hY1]; exact hcs
        subst ha'
        rw [List.length_cons] at hc hsl64
        obtain ⟨rl, hrl⟩ : ∃ rl, r.length = rl := ⟨_, rfl⟩
        rw [hrl] at hc hsl64
        clear hrl hri hY1
        go_wp2_with (refine wpList_rn rfl 24 _ _ rfl _ _ rfl rfl _ _ HRx.out ?_)
        exact ⟨⟨k + 1, some ⟨gf, 0, none⟩, fc', by omega, by first | rfl | (congr 1), HG6A, HG4A, HOJA, HTCA, bwA⟩, by simp only [intOf]; omega⟩
      ·have ik : ¬ (k : Int) < (sn : Int) := by omega
       have hksn : k = sn := by omega
       have HOJ' : Hid (OwnJ wr w.heap.size fa fc (S0.map firstN)) := by
        have := HOJ.out
        rw [List.take_of_length_le (by rw [HSN.out]; omega)] at this
        exact ownsRow_base this HB0.out.size
       have HOD' : Hid (OwnD wr w.heap.size da dc D) := HOD.out.tc HTC.out (by rfl) (by rfl) (by rfl) (by rfl)
       have HOX' : Hid (OwnX wr w.heap.size (some ⟨gx, 0, none⟩) xc X) := HOX.out.tc HTC.out (by rfl) (by rfl) (by rfl)
       have hst : (Tryz.prog.info? 26).map (·.size) = some 3 := by kernel_rfl
       have at6 := HG6.out.at_
       have RB := HG4.out
       obtain ⟨V5, hV5⟩ : ∃ V5, wr.setRow w.heap.size #[.slice da 7 dc, .slice (some ⟨gx, 0, none⟩) 6 xc, .slice fa k fc] = V5 := ⟨_, rfl⟩
       have RB5 : Blk V5 w.heap.size 26 #[.slice da 7 dc, .slice (some ⟨gx, 0, none⟩) 6 xc, .slice fa k fc] := by rw [← hV5]; exact RB.set _
       have htc5 : Tc (· == 26) wr V5 := by rw [← hV5]; exact Tc.set RB (by rfl) _
       have bw5 : Below w.heap.size w V5 := by rw [← hV5]; exact below_setRow bw (Nat.le_refl _) _
       have hgot : CompGot l E w.heap.size (.returned (.tuple #[.agg #[.slice da 7 dc, .slice (some ⟨gx, 0, none⟩) 6 xc, .slice fa k fc], .int .i64 0])) V5 := by
        refine Or.inr ⟨HE0.out, da, dc, D, (some ⟨gx, 0, none⟩), xc, X, fa, fc, S0.map firstN, by rw [List.length_map, HSN.out, hksn], HOD'.out.tc htc5 (by rfl) (by rfl) (by rfl) (by rfl), HOX'.out.tc htc5 (by rfl) (by rfl) (by rfl), ownsRow_tc HOJ'.out htc5 (by rfl), ⟨HDL.out.2, HDL.out.1, HXL.out.2, HXL.out.1, by rw [HS0.out]⟩⟩
       have HGOT : Hid _ := hgot
       clear hgot htc5 hksn
       go_wp2_with (first
        | (refine wpList_load_at rfl _ _ rfl W1.heap.size 0 (by rfl) _ at6 Tryz.underlying26 hst ?_)
        | (refine wpList_st rfl 26 _ _ rfl w.heap.size #[.slice da 7 dc, .slice (some ⟨gx, 0, none⟩) 6 xc, .slice fa k fc] zc3 (by rfl) (by rfl) RB (by kernel_rfl) rfl (by kernel_rfl) ?_))
       try rw [hV5]
       exact ret_cell_tmp (k := 4) (j := 5) Tryz.f18 (by kernel_rfl) RB5 Tryz.underlying26 (by kernel_rfl) (by rfl) (by rfl) rfl ⟨HGOT.out, bw5⟩
end Go.Proofs.YtmfgjicfdjjihaaGreatDoor
