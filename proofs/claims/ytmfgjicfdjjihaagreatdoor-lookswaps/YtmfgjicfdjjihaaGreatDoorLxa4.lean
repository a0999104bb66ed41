/- Texts joined: RMasB RHasA RHasB -/
import Derived.Test.YtmfgjicfdjjihaaGreatDoorLxa3
import Derived.Deep.DeepCutAuto
namespace Go.Proofs.YtmfgjicfdjjihaaGreatDoor
open Go.RowKit
set_option linter.unusedVariables false
set_option linter.unusedSimpArgs false
set_option maxRecDepth 100000 in
set_option maxHeartbeats 4000000 in
theorem rmask_y (f h l b : Int) (w : World) (ho : Ad.ok ⟨f, h, l⟩) (hr : Ad.right ⟨f, h, l⟩ = true) (hb : ¬ b < 0) (hw : ¬ b > Ad.width ⟨f, h, l⟩) :
  Calls Tryz.prog 113 #[.agg #[.int .i64 f, .int .u64 h, .int .u64 l], .int .i64 b] w fun e w' => e = .returned (.tuple #[(Ad.masked ⟨f, h, l⟩ b).v, .int .i64 0]) ∧ Below w.heap.size w w' := by
 obtain ⟨W1, hW1⟩ : ∃ W1, w.alloc (.cells #[.int .i64 f, .int .u64 h, .int .u64 l] 31) = W1 := ⟨_, rfl⟩
 have b1 := bel_nw hW1
 have P1 := blk_nw hW1
 obtain ⟨W2, hW2⟩ : ∃ W2, W1.alloc (.cells #[.int .i64 0, .int .u64 0, .int .u64 0] 31) = W2 := ⟨_, rfl⟩
 have b2 := bel_al b1 hW2
 have P2 := P1.al hW2
 have R2 := blk_nw hW2
 have g1 : w.heap.size < W1.heap.size := P1.lt
 have KR : Hid (∀ W, Calls Tryz.prog 41 #[.agg #[.int .i64 f, .int .u64 h, .int .u64 l]] W fun e w' => e = .returned (.bool true) ∧ Below W.heap.size W w') := fun W => by
  have := rright_any f h l W ho.2.2.1
  rw [hr] at this
  exact Calls.mono this (by rintro e w' ⟨rfl, rfl⟩; exact ⟨rfl, (Below.refl _ _).alloc (Nat.le_refl _) _⟩)
 obtain ⟨WD, hWD⟩ : ∃ W, Ad.width ⟨f, h, l⟩ = W := ⟨_, rfl⟩
 have KS : Hid (∀ W, Calls Tryz.prog 127 #[.int .i64 f] W fun e w' => e = .returned (.int .i64 WD) ∧ w' = W) := fun W => by
  have := rsize_any f W
  have e : (if f = 4 then (32 : Int) else 128) = WD := hWD
  rw [e] at this
  exact this
 obtain ⟨L, hL⟩ : ∃ L, Ad.bytes ⟨f, h, l⟩ = L := ⟨_, rfl⟩
 have KB : Hid (∀ W, Calls Tryz.prog 114 #[.agg #[.int .i64 f, .int .u64 h, .int .u64 l]] W fun e w' => ∃ a c, e = .returned (.slice a L.length c) ∧ Fresh W w' a c L) := fun W => by
  have := rbytes_right f h l W ho hr
  rw [hL] at this
  exact this
 have lL : L.length ≤ 16 := by
  rw [← hL]
  unfold Ad.bytes
  rw [if_pos hr, bytesGo_length]
  split <;> omega
 obtain ⟨⟨mf, mh, ml⟩, hM⟩ : ∃ M, Ad.masked ⟨f, h, l⟩ b = M := ⟨_, rfl⟩
 have mok := masked_ok (b := b) ho
 have mrt := masked_right (b := b) ho hr
 have mby : Hid (∀ j, j < L.length → (Ad.bytes ⟨mf, mh, ml⟩).getD j 0 = keepT (L.getD j 0) (min (b - 8 * j).toNat 8)) := fun j hj => by
  rw [← hM, ← hL]
  exact mask_byte ho hr (by omega) (by omega) j (by rw [hL]; exact hj)
 rw [hM] at mok mrt ⊢
 have mlen : Hid ((Ad.bytes ⟨mf, mh, ml⟩).length = L.length) := by
  have : (Ad.bytes ⟨mf, mh, ml⟩).length = L.length := by
   have hf : mf = f := by have := congrArg Ad.fam hM; exact this.symm
   rw [← hL]
   unfold Ad.bytes
   rw [if_pos hr, if_pos mrt, bytesGo_length, bytesGo_length]
   simp only [hf]
  exact this
 have mfr : Hid (fromB (Ad.bytes ⟨mf, mh, ml⟩) = (⟨mf, mh, ml⟩, 0)) := from_bytes mok mrt
 rw [hWD] at hw
 clear hWD hr hL hM mok mrt ho
 go_enter Tryz.func113, Tryz.ntmps113
 go_wp2_with (refine wpList_load_row rfl _ _ rfl w.heap.size (by rfl) _ _ _ _ P2 Tryz.underlying31 rfl (by kernel_rfl) ?_)
 refine Calls.mono (KR.out _) ?_
 rintro e W3 ⟨rfl, bb⟩
 have P3 := P2.kept bb
 have R3 := R2.kept bb
 have b3 := bel_tr b2 bb
 clear KR bb P2 R2 b2 hW1 hW2 P1 b1
 have d0 := P3.cell 0 (.int .i64 f) rfl
 go_wp2_with fail
 refine Calls.mono (KS.out _) ?_
 rintro e W4 ⟨rfl, hW4⟩
 rw [hW4]
 clear hW4 W4 KS d0
 go_wp2_with (refine wpList_load_row rfl _ _ rfl w.heap.size (by rfl) _ _ _ _ P3 Tryz.underlying31 rfl (by kernel_rfl) ?_)
 refine Calls.mono (KB.out _) ?_
 rintro e W4 ⟨a4, c4, rfl, f4⟩
 have R4 := R3.kept f4.below
 have b4 := bel_tr b3 f4.below
 have O4 := f4.owns
 have y4 := f4.row.bytes
 have z3 : W1.heap.size < W3.heap.size := R3.lt
 have zw : w.heap.size ≤ W3.heap.size := b3.size
 have B4 : Below W3.heap.size W3 W4 := f4.below
 clear KB f4 P3
 go_wp2_with fail
 go_loopw [7] (fun i wr => ∃ (k : Nat) (lr : List Int), k ≤ L.length ∧ i = .int .i64 k ∧ lr.length = L.length ∧ Owns wr W3.heap.size (.slice a4 L.length c4) lr ∧ Below W3.heap.size W3 wr ∧ Hid (∀ j, j < L.length → lr.getD j 0 = if j < k then keepT (L.getD j 0) (min (b - 8 * j).toNat 8) else L.getD j 0)) (fun i _ => L.length - (intOf i).toNat)
 case atStart => exact ⟨0, L, Nat.zero_le _, rfl, rfl, O4, B4, fun j hj => by rw [if_neg (Nat.not_lt_zero _)]⟩
 case round =>
  clear O4 B4 R4 b4
  obtain ⟨k, lr, hk, rfl, hlr, q1, qb, qe⟩ := hrel
  by_cases hlt : k < L.length
  ·have ik : (k : Int) < (L.length : Int) := by omega
   obtain ⟨x, hx⟩ : ∃ x, L.getD k 0 = x := ⟨_, rfl⟩
   obtain ⟨t, ht⟩ : ∃ t, min (b - 8 * (k : Int)).toNat 8 = t := ⟨_, rfl⟩
   have hx' := y4.get k
   rw [hx] at hx'
   have ex : lr.getD k 0 = x := by rw [qe.out k hlt, if_neg (Nat.lt_irrefl _), hx]
   have HS : Hid (lr.set k (yk x t 0) = lr) := by
    have : lr.set k (yk x t 0) = lr := by rw [yk_0, ← ex, List.getD_eq_getElem?_getD, List.getElem?_eq_getElem (by omega)]; simp
    exact this
   have HQ : Hid (Owns wr W3.heap.size (.slice a4 L.length c4) (lr.set k (yk x t 0))) := by
    have : Owns wr W3.heap.size (.slice a4 L.length c4) (lr.set k (yk x t 0)) := by rw [HS.out]; exact q1
    exact this
   have HX : Hid (L.getD k 0 = x ∧ min (b - 8 * (k : Int)).toNat 8 = t) := ⟨hx, ht⟩
   have ht8 : t ≤ 8 := by omega
   have htb : Hid (∀ m : Nat, m < 8 → ((k : Int) * 8 + (m : Int) ≥ b ↔ t ≤ m)) := fun m hm => by
    rw [← ht]
    omega
   clear q1 hx ht ex HS
   go_wp2_with fail
   go_loopw [8] (fun i wr => ∃ (m : Nat), m ≤ 8 ∧ i = .int .i64 m ∧ Hid (Owns wr W3.heap.size (.slice a4 L.length c4) (lr.set k (yk x t m))) ∧ Below W3.heap.size W3 wr) (fun i _ => 8 - (intOf i).toNat)
   case atStart => exact ⟨0, Nat.zero_le _, rfl, HQ, qb⟩
   case round =>
    clear HQ qb
    obtain ⟨m, hm, rfl, q1, qb⟩ := hrel
    by_cases hm8 : m < 8
    ·have im : (m : Int) < 8 := by omega
     have wk1 : IntKind.i64.wrap ((k : Int) * 8) = (k : Int) * 8 := wraps_i64 _ (by omega) (by omega)
     have wk2 : IntKind.i64.wrap ((k : Int) * 8 + (m : Int)) = (k : Int) * 8 + (m : Int) := wraps_i64 _ (by omega) (by omega)
     by_cases hge : (k : Int) * 8 + (m : Int) ≥ b
     ·obtain ⟨Y, hY⟩ : ∃ y, yk x t m = y := ⟨_, rfl⟩
      obtain ⟨Y', hY'⟩ : ∃ y, yk x t (m + 1) = y := ⟨_, rfl⟩
      have hstep := yk_step x t m ((htb.out m hm8).1 hge) hm8 hx'.1 hx'.2
      rw [hY, hY'] at hstep
      have q0 := q1.out
      rw [hY] at q0
      obtain ⟨g1', rfl, k1, k2, k3, k4, k5⟩ := q0.write (by rw [List.length_set]; exact hlr) k hlt
      have k3' : wr.cell? ⟨g1', k, none⟩ = some (.int .u8 Y) := by rw [k3]; simp [List.getD_eq_getElem?_getD, hlr, hlt]
      have KK : Hid (Owns (wr.setCell ⟨g1', k, none⟩ (.int .u8 Y')) W3.heap.size (.slice (some ⟨g1', 0, none⟩) L.length c4) (lr.set k Y')) := by
       have := k5 Y'
       rw [List.set_set] at this
       exact this
      have HY' : Hid (yk x t (m + 1) = Y') := hY'
      clear q0 q1 k3 k5 hY hY' htb qe
      go_wp2_with fail
      go_region
      all_goals go_wp2
      all_goals exact ⟨⟨m + 1, by omega, by go_num, by rw [HY'.out]; have e : bits .and .u8 Y (bits .xor .u8 (if IntKind.u8.signed = true then -1 else IntKind.u8.max) (128 / 2 ^ m)) = Y' := hstep; have kk := KK.out; rw [e]; exact kk, by first | exact (qb.setCell k1 _).drew | exact qb.drew.setCell k1 _⟩, by simp [intOf]; omega⟩
     ·have eq : yk x t (m + 1) = yk x t m := yk_skip x t m (by have := (htb.out m hm8); omega)
      have HE : Hid (yk x t (m + 1) = yk x t m) := eq
      clear eq htb qe
      go_wp2
      refine ⟨⟨m + 1, by omega, by go_num, by rw [HE.out]; exact q1, qb⟩, by simp [intOf]; omega⟩
    ·have im : ¬ (m : Int) < 8 := by omega
     have hm' : m = 8 := by omega
     have q2 := q1.out
     rw [hm'] at q2
     rw [yk_8 x t ht8] at q2
     have HQ2 : Hid (Owns wr W3.heap.size (.slice a4 L.length c4) (lr.set k (keepT x t))) := q2
     clear q1 q2 hm' htb
     go_wp2
     refine ⟨⟨k + 1, lr.set k (keepT x t), by omega, by go_num, by rw [List.length_set]; exact hlr, HQ2.out, qb, fun j hj => ?_⟩, by simp [intOf]; omega⟩
     by_cases ejk : j = k
     ·rw [ejk, if_pos (Nat.lt_succ_self _), List.getD_eq_getElem?_getD, List.getElem?_set_self (by omega)]
      rw [HX.out.1, HX.out.2]
      rfl
     ·rw [List.getD_eq_getElem?_getD, List.getElem?_set_ne (by omega), ← List.getD_eq_getElem?_getD, qe.out j hj]
      by_cases c : j < k
      ·rw [if_pos c, if_pos (by omega)]
      ·rw [if_neg c, if_neg (by omega)]
  ·have ik : ¬ (k : Int) < (L.length : Int) := by omega
   have ek : k = L.length := by omega
   have el : lr = Ad.bytes ⟨mf, mh, ml⟩ := by
    refine List.ext_getElem? fun j => ?_
    by_cases hj : j < L.length
    ·have e1 := qe.out j hj
     rw [if_pos (by omega), ← mby.out j hj] at e1
     rw [List.getD_eq_getElem?_getD, List.getD_eq_getElem?_getD] at e1
     rw [List.getElem?_eq_getElem (by omega), List.getElem?_eq_getElem (by rw [mlen.out]; exact hj)] at e1 ⊢
     simpa using e1
    ·rw [List.getElem?_eq_none (by omega), List.getElem?_eq_none (by rw [mlen.out]; omega)]
   have R5 := R3.kept qb
   have b5 := bel_tr b3 qb
   have rr : Row wr a4 lr := by
    have := q1
    rw [← hlr] at this
    exact this.row (by omega) (by rw [el]; exact bytes_bytesM _)
   have KF : Hid (Calls Tryz.prog 115 #[.slice a4 L.length c4] wr fun e w' => e = .returned (.tuple #[.agg #[.int .i64 mf, .int .u64 mh, .int .u64 ml], .int .i64 0]) ∧ Below wr.heap.size wr w') := by
    have := rfrom_any a4 c4 lr wr rr
    rw [el, mfr.out, ← el, hlr] at this
    exact this
   clear q1 qe el rr ek hlr mby mlen mfr
   go_wp2_with fail
   refine Calls.mono KF.out ?_
   rintro e W6 ⟨rfl, bb⟩
   have R6 := R5.kept bb
   have b6 := bel_tr b5 bb
   have Rf := R6.set #[.int .i64 mf, .int .u64 mh, .int .u64 ml]
   have bf := below_setRow b6 (Nat.le_of_lt g1) #[.int .i64 mf, .int .u64 mh, .int .u64 ml]
   clear KF bb R5 b5
   go_wp2_with (refine wpList_store_row rfl _ _ _ rfl W1.heap.size #[.int .i64 mf, .int .u64 mh, .int .u64 ml] (by rfl) (by rfl) _ _ R6 (by kernel_rfl) (by rfl) (by kernel_rfl) ?_)
   exact ret_cell_tmp (k := 4) (j := 5) Tryz.f113 (by kernel_rfl) Rf Tryz.underlying31 (by kernel_rfl) (by rfl) (by rfl) rfl ⟨rfl, bf⟩
theorem rmask_any (f h l b : Int) (w : World) (ho : Ad.ok ⟨f, h, l⟩) :
  Calls Tryz.prog 113 #[.agg #[.int .i64 f, .int .u64 h, .int .u64 l], .int .i64 b] w fun e w' => e = .returned (.tuple #[(Ad.mask ⟨f, h, l⟩ b).1.v, .int .i64 (Ad.mask ⟨f, h, l⟩ b).2]) ∧ Below w.heap.size w w' := by
 cases hr : Ad.right ⟨f, h, l⟩ with
 | false =>
  rw [mask_bad (by unfold Ad.fits; rw [hr]; rfl)]
  exact rmask_n1 f h l b w ho hr
 | true =>
  by_cases hb : b < 0
  ·rw [mask_bad (by unfold Ad.fits; rw [decide_eq_false (show ¬ 0 ≤ b by omega)]; simp)]
   exact rmask_n2 f h l b w ho hr hb
  by_cases hw : b > Ad.width ⟨f, h, l⟩
  ·rw [mask_bad (by unfold Ad.fits; rw [decide_eq_false (show ¬ b ≤ Ad.width ⟨f, h, l⟩ by omega)]; simp)]
   exact rmask_n3 f h l b w ho hr hb hw
  ·rw [mask_good (by unfold Ad.fits; rw [hr, decide_eq_true (show 0 ≤ b by omega), decide_eq_true (show b ≤ Ad.width ⟨f, h, l⟩ by omega)]; rfl)]
   exact rmask_y f h l b w ho hr hb hw
set_option maxHeartbeats 400000 in
theorem rrightPrefix_any (f h l b : Int) (w : World) (ho : Ad.ok ⟨f, h, l⟩) :
  Calls Tryz.prog 112 #[.agg #[.int .i64 f, .int .u64 h, .int .u64 l, .int .i64 b]] w fun e w' =>
   e = .returned (.bool (Ad.rightPrefix ⟨f, h, l⟩ b)) ∧ Below w.heap.size w w' := by
 unfold Ad.rightPrefix Ad.has
 have hm := fun w => rmask_any f h l b w ho
 generalize Ad.mask ⟨f, h, l⟩ b = m at *
 obtain ⟨⟨mf, mh, ml⟩, me⟩ := m
 simp only at hm
 go_enter Tryz.func112, Tryz.ntmps112
 go_wp2_with fail
 refine (hm _).mono ?_
 rintro e w1 ⟨rfl, b1⟩
 have k0 : ∀ X, (w1.alloc X).cell? ⟨w.heap.size, 0, none⟩ = some (.int .i64 f) := fun X => kept_alloc b1 X (by simp)
 have k1 : ∀ X, (w1.alloc X).cell? ⟨w.heap.size, 1, none⟩ = some (.int .u64 h) := fun X => kept_alloc b1 X (by simp)
 have k2 : ∀ X, (w1.alloc X).cell? ⟨w.heap.size, 2, none⟩ = some (.int .u64 l) := fun X => kept_alloc b1 X (by simp)
 have bz : w.heap.size ≤ w1.heap.size := by have := b1.size; simp at this; omega
 by_cases he : me = 0
 ·go_wp2
  all_goals go_ret
  all_goals exact ⟨by first | simp_all [Ad.same] | simp [Ad.same, *], (((Below.refl _ _).alloc (Nat.le_refl _) _).trans (b1.mono (by simp))).alloc bz _⟩
 ·go_wp2
  go_ret
  exact ⟨by simp [he], (((Below.refl _ _).alloc (Nat.le_refl _) _).trans (b1.mono (by simp))).alloc bz _⟩
set_option maxRecDepth 100000 in
set_option maxHeartbeats 4000000 in
theorem rhas_n1 (f h l b f' h' l' : Int) (w : World) (ho : Ad.ok ⟨f, h, l⟩) (ho' : Ad.ok ⟨f', h', l'⟩) (hp : Ad.rightPrefix ⟨f, h, l⟩ b = false) :
  Calls Tryz.prog 99 #[.agg #[.int .i64 f, .int .u64 h, .int .u64 l, .int .i64 b], .agg #[.int .i64 f', .int .u64 h', .int .u64 l']] w fun e w' => e = .returned (.bool false) ∧ Below w.heap.size w w' := by
 obtain ⟨W1, hW1⟩ : ∃ W1, w.alloc (.cells #[.int .i64 f, .int .u64 h, .int .u64 l, .int .i64 b] 78) = W1 := ⟨_, rfl⟩
 have b1 := bel_nw hW1
 have P1 := blk_nw hW1
 obtain ⟨W2, hW2⟩ : ∃ W2, W1.alloc (.cells #[.int .i64 f', .int .u64 h', .int .u64 l'] 31) = W2 := ⟨_, rfl⟩
 have b2 := bel_al b1 hW2
 have P2 := P1.al hW2
 have A2 := blk_nw hW2
 have KP : Hid (∀ W, Calls Tryz.prog 112 #[.agg #[.int .i64 f, .int .u64 h, .int .u64 l, .int .i64 b]] W fun e w' => e = .returned (.bool false) ∧ Below W.heap.size W w') := fun W => by
  have := rrightPrefix_any f h l b W ho
  rw [hp] at this
  exact this
 clear hp
 go_enter Tryz.func99, Tryz.ntmps99
 go_wp2_with (refine wpList_load_row rfl _ _ rfl w.heap.size (by rfl) _ _ _ _ P2 Tryz.underlying78 rfl (by kernel_rfl) ?_)
 refine Calls.mono (KP.out _) ?_
 rintro e W3 ⟨rfl, bb⟩
 have P3 := P2.kept bb
 have A3 := A2.kept bb
 have b3 := bel_tr b2 bb
 clear KP bb P2 A2 b2 hW1 hW2 P1 b1
 clear P3 A3
 go_wp2_with fail
 go_ret
 exact ⟨rfl, b3⟩
set_option maxRecDepth 100000 in
set_option maxHeartbeats 4000000 in
theorem rhas_n2 (f h l b f' h' l' : Int) (w : World) (ho : Ad.ok ⟨f, h, l⟩) (ho' : Ad.ok ⟨f', h', l'⟩) (hp : Ad.rightPrefix ⟨f, h, l⟩ b = true) (hr : Ad.right ⟨f', h', l'⟩ = false) :
  Calls Tryz.prog 99 #[.agg #[.int .i64 f, .int .u64 h, .int .u64 l, .int .i64 b], .agg #[.int .i64 f', .int .u64 h', .int .u64 l']] w fun e w' => e = .returned (.bool false) ∧ Below w.heap.size w w' := by
 obtain ⟨W1, hW1⟩ : ∃ W1, w.alloc (.cells #[.int .i64 f, .int .u64 h, .int .u64 l, .int .i64 b] 78) = W1 := ⟨_, rfl⟩
 have b1 := bel_nw hW1
 have P1 := blk_nw hW1
 obtain ⟨W2, hW2⟩ : ∃ W2, W1.alloc (.cells #[.int .i64 f', .int .u64 h', .int .u64 l'] 31) = W2 := ⟨_, rfl⟩
 have b2 := bel_al b1 hW2
 have P2 := P1.al hW2
 have A2 := blk_nw hW2
 have KP : Hid (∀ W, Calls Tryz.prog 112 #[.agg #[.int .i64 f, .int .u64 h, .int .u64 l, .int .i64 b]] W fun e w' => e = .returned (.bool true) ∧ Below W.heap.size W w') := fun W => by
  have := rrightPrefix_any f h l b W ho
  rw [hp] at this
  exact this
 have KR : Hid (∀ W, Calls Tryz.prog 41 #[.agg #[.int .i64 f', .int .u64 h', .int .u64 l']] W fun e w' => e = .returned (.bool false) ∧ Below W.heap.size W w') := fun W => by
  have := rright_any f' h' l' W ho'.2.2.1
  rw [hr] at this
  exact Calls.mono this (by rintro e w' ⟨rfl, rfl⟩; exact ⟨rfl, (Below.refl _ _).alloc (Nat.le_refl _) _⟩)
 clear hp hr
 go_enter Tryz.func99, Tryz.ntmps99
 go_wp2_with (refine wpList_load_row rfl _ _ rfl w.heap.size (by rfl) _ _ _ _ P2 Tryz.underlying78 rfl (by kernel_rfl) ?_)
 refine Calls.mono (KP.out _) ?_
 rintro e W3 ⟨rfl, bb⟩
 have P3 := P2.kept bb
 have A3 := A2.kept bb
 have b3 := bel_tr b2 bb
 clear KP bb P2 A2 b2 hW1 hW2 P1 b1
 go_wp2_with (refine wpList_load_blk_w (by kernel_rfl) _ _ rfl W1.heap.size (by rfl) _ A3 Tryz.underlying31 (by kernel_rfl) ?_)
 refine Calls.mono (KR.out _) ?_
 rintro e W4 ⟨rfl, bb⟩
 have P4 := P3.kept bb
 have A4 := A3.kept bb
 have b4 := bel_tr b3 bb
 clear KR bb P3 A3 b3
 clear P4 A4
 go_wp2_with fail
 go_ret
 exact ⟨rfl, b4⟩
set_option maxRecDepth 100000 in
set_option maxHeartbeats 4000000 in
theorem rhas_n3 (f h l b f' h' l' : Int) (w : World) (ho : Ad.ok ⟨f, h, l⟩) (ho' : Ad.ok ⟨f', h', l'⟩) (hp : Ad.rightPrefix ⟨f, h, l⟩ b = true) (hr : Ad.right ⟨f', h', l'⟩ = true) (hf : ¬ f' = f) :
  Calls Tryz.prog 99 #[.agg #[.int .i64 f, .int .u64 h, .int .u64 l, .int .i64 b], .agg #[.int .i64 f', .int .u64 h', .int .u64 l']] w fun e w' => e = .returned (.bool false) ∧ Below w.heap.size w w' := by
 obtain ⟨W1, hW1⟩ : ∃ W1, w.alloc (.cells #[.int .i64 f, .int .u64 h, .int .u64 l, .int .i64 b] 78) = W1 := ⟨_, rfl⟩
 have b1 := bel_nw hW1
 have P1 := blk_nw hW1
 obtain ⟨W2, hW2⟩ : ∃ W2, W1.alloc (.cells #[.int .i64 f', .int .u64 h', .int .u64 l'] 31) = W2 := ⟨_, rfl⟩
 have b2 := bel_al b1 hW2
 have P2 := P1.al hW2
 have A2 := blk_nw hW2
 have KP : Hid (∀ W, Calls Tryz.prog 112 #[.agg #[.int .i64 f, .int .u64 h, .int .u64 l, .int .i64 b]] W fun e w' => e = .returned (.bool true) ∧ Below W.heap.size W w') := fun W => by
  have := rrightPrefix_any f h l b W ho
  rw [hp] at this
  exact this
 have KR : Hid (∀ W, Calls Tryz.prog 41 #[.agg #[.int .i64 f', .int .u64 h', .int .u64 l']] W fun e w' => e = .returned (.bool true) ∧ Below W.heap.size W w') := fun W => by
  have := rright_any f' h' l' W ho'.2.2.1
  rw [hr] at this
  exact Calls.mono this (by rintro e w' ⟨rfl, rfl⟩; exact ⟨rfl, (Below.refl _ _).alloc (Nat.le_refl _) _⟩)
 have hf' : (f' != f) = true := by simpa using hf
 clear hp hr hf
 go_enter Tryz.func99, Tryz.ntmps99
 go_wp2_with (refine wpList_load_row rfl _ _ rfl w.heap.size (by rfl) _ _ _ _ P2 Tryz.underlying78 rfl (by kernel_rfl) ?_)
 refine Calls.mono (KP.out _) ?_
 rintro e W3 ⟨rfl, bb⟩
 have P3 := P2.kept bb
 have A3 := A2.kept bb
 have b3 := bel_tr b2 bb
 clear KP bb P2 A2 b2 hW1 hW2 P1 b1
 go_wp2_with (refine wpList_load_blk_w (by kernel_rfl) _ _ rfl W1.heap.size (by rfl) _ A3 Tryz.underlying31 (by kernel_rfl) ?_)
 refine Calls.mono (KR.out _) ?_
 rintro e W4 ⟨rfl, bb⟩
 have P4 := P3.kept bb
 have A4 := A3.kept bb
 have b4 := bel_tr b3 bb
 clear KR bb P3 A3 b3
 have d0 := A4.cell 0 (.int .i64 f') rfl
 have p0 := P4.cell 0 (.int .i64 f) rfl
 clear P4 A4
 go_wp2_with fail
 go_ret
 exact ⟨rfl, b4⟩
set_option maxRecDepth 100000 in
set_option maxHeartbeats 4000000 in
theorem rhas_y (f h l b f' h' l' : Int) (w : World) (ho : Ad.ok ⟨f, h, l⟩) (ho' : Ad.ok ⟨f', h', l'⟩) (hp : Ad.rightPrefix ⟨f, h, l⟩ b = true) (hr : Ad.right ⟨f', h', l'⟩ = true) (hf : f' = f) (mf mh ml me : Int) (hm : Ad.mask ⟨f', h', l'⟩ b = (⟨mf, mh, ml⟩, me)) :
  Calls Tryz.prog 99 #[.agg #[.int .i64 f, .int .u64 h, .int .u64 l, .int .i64 b], .agg #[.int .i64 f', .int .u64 h', .int .u64 l']] w fun e w' => e = .returned (.bool (Ad.same ⟨mf, mh, ml⟩ ⟨f, h, l⟩)) ∧ Below w.heap.size w w' := by
 obtain ⟨W1, hW1⟩ : ∃ W1, w.alloc (.cells #[.int .i64 f, .int .u64 h, .int .u64 l, .int .i64 b] 78) = W1 := ⟨_, rfl⟩
 have b1 := bel_nw hW1
 have P1 := blk_nw hW1
 obtain ⟨W2, hW2⟩ : ∃ W2, W1.alloc (.cells #[.int .i64 f', .int .u64 h', .int .u64 l'] 31) = W2 := ⟨_, rfl⟩
 have b2 := bel_al b1 hW2
 have P2 := P1.al hW2
 have A2 := blk_nw hW2
 have KP : Hid (∀ W, Calls Tryz.prog 112 #[.agg #[.int .i64 f, .int .u64 h, .int .u64 l, .int .i64 b]] W fun e w' => e = .returned (.bool true) ∧ Below W.heap.size W w') := fun W => by
  have := rrightPrefix_any f h l b W ho
  rw [hp] at this
  exact this
 have KR : Hid (∀ W, Calls Tryz.prog 41 #[.agg #[.int .i64 f', .int .u64 h', .int .u64 l']] W fun e w' => e = .returned (.bool true) ∧ Below W.heap.size W w') := fun W => by
  have := rright_any f' h' l' W ho'.2.2.1
  rw [hr] at this
  exact Calls.mono this (by rintro e w' ⟨rfl, rfl⟩; exact ⟨rfl, (Below.refl _ _).alloc (Nat.le_refl _) _⟩)
 have KM : Hid (∀ W, Calls Tryz.prog 113 #[.agg #[.int .i64 f', .int .u64 h', .int .u64 l'], .int .i64 b] W fun e w' => e = .returned (.tuple #[.agg #[.int .i64 mf, .int .u64 mh, .int .u64 ml], .int .i64 me]) ∧ Below W.heap.size W w') := fun W => by
  have := rmask_any f' h' l' b W ho'
  rw [hm] at this
  exact this
 have hf' : (f' != f) = false := by simpa using hf
 clear hp hr hf hm
 go_enter Tryz.func99, Tryz.ntmps99
 go_wp2_with (refine wpList_load_row rfl _ _ rfl w.heap.size (by rfl) _ _ _ _ P2 Tryz.underlying78 rfl (by kernel_rfl) ?_)
 refine Calls.mono (KP.out _) ?_
 rintro e W3 ⟨rfl, bb⟩
 have P3 := P2.kept bb
 have A3 := A2.kept bb
 have b3 := bel_tr b2 bb
 clear KP bb P2 A2 b2 hW1 hW2 P1 b1
 go_wp2_with (refine wpList_load_blk_w (by kernel_rfl) _ _ rfl W1.heap.size (by rfl) _ A3 Tryz.underlying31 (by kernel_rfl) ?_)
 refine Calls.mono (KR.out _) ?_
 rintro e W4 ⟨rfl, bb⟩
 have P4 := P3.kept bb
 have A4 := A3.kept bb
 have b4 := bel_tr b3 bb
 clear KR bb P3 A3 b3
 have d0 := A4.cell 0 (.int .i64 f') rfl
 have p0 := P4.cell 0 (.int .i64 f) rfl
 have p3 := P4.cell 3 (.int .i64 b) rfl
 go_wp2_with (refine wpList_load_row rfl _ _ rfl W1.heap.size (by rfl) _ _ _ _ A4 Tryz.underlying31 rfl (by kernel_rfl) ?_)
 refine Calls.mono (KM.out _) ?_
 rintro e W5 ⟨rfl, bb⟩
 have P5 := P4.kept bb
 have b5 := bel_tr b4 bb
 clear KM bb P4 A4 b4 d0 p0 p3
 obtain ⟨W6, hW6⟩ : ∃ W, W5.alloc (.cells #[.int .i64 0, .int .u64 0, .int .u64 0] 31) = W := ⟨_, rfl⟩
 have P6 := P5.al hW6
 have b6 := bel_al b5 hW6
 have M6 := blk_nw hW6
 have g5 : w.heap.size < W5.heap.size := P5.lt
 have P7 := P6.other (show w.heap.size ≠ W5.heap.size by omega) #[.int .i64 mf, .int .u64 mh, .int .u64 ml]
 have M7 := M6.set #[.int .i64 mf, .int .u64 mh, .int .u64 ml]
 have b7 := below_setRow b6 (Nat.le_of_lt g5) #[.int .i64 mf, .int .u64 mh, .int .u64 ml]
 obtain ⟨W7, hW7⟩ : ∃ W, W6.setRow W5.heap.size #[.int .i64 mf, .int .u64 mh, .int .u64 ml] = W := ⟨_, rfl⟩
 rw [hW7] at P7 M7 b7
 have HW7 : Hid _ := hW7
 clear hW7
 go_wp2_with (first
  | (refine wpList_store_row rfl _ _ _ rfl W5.heap.size #[.int .i64 mf, .int .u64 mh, .int .u64 ml] (by rfl) (by rfl) _ _ M6 (by kernel_rfl) (by rfl) (by kernel_rfl) ?_; rw [HW7.out])
  | (refine wpList_load_row rfl _ _ rfl W5.heap.size (by rfl) _ _ _ _ M7 Tryz.underlying31 rfl (by kernel_rfl) ?_)
  | (refine wpList_load_sub rfl _ _ rfl w.heap.size 0 78 (by rfl) _ #[.int .i64 f, .int .u64 h, .int .u64 l] P7 (by rfl) Tryz.underlying31 (by kernel_rfl) ?_))
 all_goals go_ret
 all_goals exact ⟨by first | simp_all [Ad.same] | simp [Ad.same, *], b7⟩
theorem rhas_any (f h l b f' h' l' : Int) (w : World) (ho : Ad.ok ⟨f, h, l⟩) (ho' : Ad.ok ⟨f', h', l'⟩) :
  Calls Tryz.prog 99 #[.agg #[.int .i64 f, .int .u64 h, .int .u64 l, .int .i64 b], .agg #[.int .i64 f', .int .u64 h', .int .u64 l']] w fun e w' => e = .returned (.bool (Ad.has ⟨f, h, l⟩ b ⟨f', h', l'⟩)) ∧ Below w.heap.size w w' := by
 have hno : ∀ q : Prop, (Ad.has ⟨f, h, l⟩ b ⟨f', h', l'⟩ = true → q) → ¬ q → Ad.has ⟨f, h, l⟩ b ⟨f', h', l'⟩ = false := fun q h1 h2 => by
  cases e : Ad.has ⟨f, h, l⟩ b ⟨f', h', l'⟩ with
  | false => rfl
  | true => exact absurd (h1 e) h2
 cases hp : Ad.rightPrefix ⟨f, h, l⟩ b with
 | false =>
  rw [hno _ (fun e => (has_all ho' e).1) (by rw [hp]; decide)]
  exact rhas_n1 f h l b f' h' l' w ho ho' hp
 | true =>
  cases hr : Ad.right ⟨f', h', l'⟩ with
  | false =>
   rw [hno _ (fun e => (has_all ho' e).2.1) (by rw [hr]; decide)]
   exact rhas_n2 f h l b f' h' l' w ho ho' hp hr
  | true =>
   by_cases hf : f' = f
   ·have hfit := fits_of (p := ⟨f, h, l⟩) (a := ⟨f', h', l'⟩) hp hr hf
    obtain ⟨⟨⟨mf, mh, ml⟩, me⟩, hm⟩ : ∃ m, Ad.mask ⟨f', h', l'⟩ b = m := ⟨_, rfl⟩
    have := rhas_y f h l b f' h' l' w ho ho' hp hr hf mf mh ml me hm
    have e : Ad.has ⟨f, h, l⟩ b ⟨f', h', l'⟩ = Ad.same ⟨mf, mh, ml⟩ ⟨f, h, l⟩ := by
     unfold Ad.has
     have e0 : me = 0 := by rw [mask_good hfit] at hm; injection hm with _ h2; exact h2.symm
     rw [hm, e0]
     simp
    rw [e]
    exact this
   ·rw [hno _ (fun e => (has_all ho' e).2.2) hf]
    exact rhas_n3 f h l b f' h' l' w ho ho' hp hr hf
set_option maxRecDepth 100000 in
set_option maxHeartbeats 4000000 in
theorem rbytes_no (f h l : Int) (w : World) (ho : Ad.ok ⟨f, h, l⟩) (hr : Ad.right ⟨f, h, l⟩ = false) :
  Calls Tryz.prog 114 #[.agg #[.int .i64 f, .int .u64 h, .int .u64 l]] w fun e w' => e = .returned (.slice none 0 0) ∧ Below w.heap.size w w' := by
 obtain ⟨W1, hW1⟩ : ∃ W1, w.alloc (.cells #[.int .i64 f, .int .u64 h, .int .u64 l] 31) = W1 := ⟨_, rfl⟩
 have b1 := bel_nw hW1
 have P1 := blk_nw hW1
 have KR : Hid (∀ W, Calls Tryz.prog 41 #[.agg #[.int .i64 f, .int .u64 h, .int .u64 l]] W fun e w' => e = .returned (.bool false) ∧ Below W.heap.size W w') := fun W => by
  have := rright_any f h l W ho.2.2.1
  rw [hr] at this
  exact Calls.mono this (by rintro e w' ⟨rfl, rfl⟩; exact ⟨rfl, (Below.refl _ _).alloc (Nat.le_refl _) _⟩)
 clear hr
 go_enter Tryz.func114, Tryz.ntmps114
 go_wp2_with (refine wpList_load_row rfl _ _ rfl w.heap.size (by rfl) _ _ _ _ P1 Tryz.underlying31 rfl (by kernel_rfl) ?_)
 refine Calls.mono (KR.out _) ?_
 rintro e W3 ⟨rfl, bb⟩
 have b3 := bel_tr b1 bb
 clear KR bb P1 b1 hW1
 go_wp2_with fail
 go_ret
 exact ⟨rfl, b3⟩
end Go.Proofs.YtmfgjicfdjjihaaGreatDoor
