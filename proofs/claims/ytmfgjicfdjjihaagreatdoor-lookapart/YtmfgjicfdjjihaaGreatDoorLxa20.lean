/- Texts joined: CmE CkX -/
import Derived.Test.YtmfgjicfdjjihaaGreatDoorLxa19
namespace Go.Proofs.YtmfgjicfdjjihaaGreatDoor
open Go.RowKit
set_option linter.unusedVariables false
set_option linter.unusedSimpArgs false
/-- A byte behind m rounds: its bits from t to m are set. -/
def yo (x : Int) (t m : Nat) : Int := if m ≤ t then x else x + 2 ^ (8 - t) - 2 ^ (8 - m)
theorem yo_0 (x : Int) (t : Nat) : yo x t 0 = x := by unfold yo; rw [if_pos (Nat.zero_le _)]
theorem yo_8 (x : Int) (t : Nat) (ht : t ≤ 8) : yo x t 8 = x + 2 ^ (8 - t) - 1 := by
 unfold yo
 by_cases h : 8 ≤ t
 ·rw [if_pos h, show t = 8 by omega]; simp
 ·rw [if_neg h]; simp
theorem yo_skip (x : Int) (t m : Nat) (h : m < t) : yo x t (m + 1) = yo x t m := by
 unfold yo
 rw [if_pos (by omega), if_pos (by omega)]
theorem or_all : ∀ m : Fin 8, ∀ t : Fin 9, t.val ≤ m.val → ∀ x : Fin 256, x.val % 2 ^ (8 - t.val) = 0 → bits .or .u8 ((x.val : Int) + 2 ^ (8 - t.val) - 2 ^ (8 - m.val)) (128 / 2 ^ m.val) = (x.val : Int) + 2 ^ (8 - t.val) - 2 ^ (8 - (m.val + 1)) := by decide +kernel
theorem yo_step (x : Int) (t m : Nat) (h : t ≤ m) (hm : m < 8) (h0 : 0 ≤ x) (h1 : x ≤ 255) (hz : x % 2 ^ (8 - t) = 0) : bits .or .u8 (yo x t m) (128 / 2 ^ m) = yo x t (m + 1) := by
 obtain ⟨y, rfl⟩ := Int.eq_ofNat_of_zero_le h0
 have hz' : y % 2 ^ (8 - t) = 0 := by
  have : ((y % 2 ^ (8 - t) : Nat) : Int) = 0 := by simpa using hz
  exact_mod_cast this
 have := or_all ⟨m, hm⟩ ⟨t, by omega⟩ h ⟨y, by omega⟩ hz'
 simp only at this
 have e1 : yo (y : Int) t m = (y : Int) + 2 ^ (8 - t) - 2 ^ (8 - m) := by
  unfold yo
  by_cases e : m ≤ t
  ·rw [if_pos e, show t = m by omega]; omega
  ·rw [if_neg e]
 have e2 : yo (y : Int) t (m + 1) = (y : Int) + 2 ^ (8 - t) - 2 ^ (8 - (m + 1)) := by
  unfold yo
  rw [if_neg (by omega)]
 rw [e1, e2, this]
set_option maxRecDepth 100000 in
set_option maxHeartbeats 4000000 in
theorem rlast_y (f h l b : Int) (w : World) (ho : Ad.ok ⟨f, h, l⟩) (hp : Ad.rightPrefix ⟨f, h, l⟩ b = true) :
    Calls Tryz.prog 100 #[.agg #[.int .i64 f, .int .u64 h, .int .u64 l, .int .i64 b]] w fun e w' => e = .returned (lastAd ⟨f, h, l⟩ b).v ∧ Below w.heap.size w w' := by
  obtain ⟨W1, hW1⟩ : ∃ W1, w.alloc (.cells #[.int .i64 f, .int .u64 h, .int .u64 l, .int .i64 b] 78) = W1 := ⟨_, rfl⟩
  have b1 := bel_nw hW1
  have P1 := blk_nw hW1
  obtain ⟨W2, hW2⟩ : ∃ W2, W1.alloc (.cells #[.int .i64 0, .int .u64 0, .int .u64 0] 31) = W2 := ⟨_, rfl⟩
  have b2 := bel_al b1 hW2
  have P2 := P1.al hW2
  have R2 := blk_nw hW2
  have g1 : w.heap.size < W1.heap.size := P1.lt
  have hr := (right_of_prefix hp).1
  have hb0 : 0 ≤ b := (right_of_prefix hp).2.1
  have hbw : b ≤ 128 := by have := (right_of_prefix hp).2.2; have : Ad.width ⟨f, h, l⟩ ≤ 128 := by unfold Ad.width; split <;> omega
                           omega
  obtain ⟨L, hL⟩ : ∃ L, Ad.bytes ⟨f, h, l⟩ = L := ⟨_, rfl⟩
  have KB : Hid (∀ W, Calls Tryz.prog 114 #[.agg #[.int .i64 f, .int .u64 h, .int .u64 l]] W fun e w' => ∃ a c, e = .returned (.slice a L.length c) ∧ Fresh W w' a c L) := fun W => by
    have := rbytes_right f h l W ho hr
    rw [hL] at this
    exact this
  have lL : L.length ≤ 16 := by
    rw [← hL]
    unfold Ad.bytes
    rw [if_pos hr, bytesGo_length]
    split <;> omega
  obtain ⟨⟨mf, mh, ml⟩, hM⟩ : ∃ M, lastAd ⟨f, h, l⟩ b = M := ⟨_, rfl⟩
  obtain ⟨mok, mrt⟩ := last_right ho hp
  have mby : Hid (∀ j : Nat, j < L.length → (Ad.bytes ⟨mf, mh, ml⟩).getD j 0 = L.getD j 0 + 2 ^ (8 - min (b - 8 * j).toNat 8) - 1) := fun j hj => by
    rw [← hM, ← hL]
    exact (last_byte ho hp j (by rw [hL]; exact hj)).2.1
  have mze : Hid (∀ j : Nat, j < L.length → L.getD j 0 % 2 ^ (8 - min (b - 8 * j).toNat 8) = 0) := fun j hj => by
    rw [← hL]
    exact (last_byte ho hp j (by rw [hL]; exact hj)).2.2
  rw [hM] at mok mrt ⊢
  have mlen : Hid ((Ad.bytes ⟨mf, mh, ml⟩).length = L.length) := by
    have : (Ad.bytes ⟨mf, mh, ml⟩).length = L.length := by
      have hf : mf = f := by have := congrArg Ad.fam hM; exact this.symm
      rw [← hL]
      unfold Ad.bytes
      rw [if_pos hr, if_pos mrt, bytesGo_length, bytesGo_length]
      simp only [hf]
    exact this
  have mfr : Hid (fromB (Ad.bytes ⟨mf, mh, ml⟩) = (⟨mf, mh, ml⟩, 0)) := from_bytes mok mrt
  clear hr hL hM mok mrt ho hp
  have p0 := P2.cell 0 (.int .i64 f) rfl
  have p1 := P2.cell 1 (.int .u64 h) rfl
  have p2 := P2.cell 2 (.int .u64 l) rfl
  have HP2 : Hid (Blk W2 w.heap.size 78 #[.int .i64 f, .int .u64 h, .int .u64 l, .int .i64 b]) := P2
  have HR2 : Hid (Blk W2 W1.heap.size 31 #[.int .i64 0, .int .u64 0, .int .u64 0]) := R2
  clear P2 R2 P1
  go_enter Tryz.func100, Tryz.ntmps100
  go_wp2_with fail
  refine Calls.mono (KB.out _) ?_
  rintro e W4 ⟨a4, c4, rfl, f4⟩
  have O4 := f4.owns
  have y4 := f4.row.bytes
  have B4 : Below W2.heap.size W2 W4 := f4.below
  clear KB f4 hW1 hW2 p0 p1 p2 b1
  go_wp2_with fail
  go_loopw [4] (fun i wr => ∃ (k : Nat) (lr : List Int), k ≤ L.length ∧ i = .int .i64 k ∧ lr.length = L.length ∧ Owns wr W2.heap.size (.slice a4 L.length c4) lr ∧ Below W2.heap.size W2 wr ∧ Hid (∀ j : Nat, j < L.length → lr.getD j 0 = if j < k then L.getD j 0 + 2 ^ (8 - min (b - 8 * j).toNat 8) - 1 else L.getD j 0)) (fun i _ => L.length - (intOf i).toNat)
  case atStart => exact ⟨0, L, Nat.zero_le _, rfl, rfl, O4, B4, fun j hj => by rw [if_neg (Nat.not_lt_zero _)]⟩
  case round =>
    clear O4 B4
    obtain ⟨k, lr, hk, rfl, hlr, q1, qb, qe⟩ := hrel
    by_cases hlt : k < L.length
    · have ik : (k : Int) < (L.length : Int) := by omega
      obtain ⟨x, hx⟩ : ∃ x, L.getD k 0 = x := ⟨_, rfl⟩
      obtain ⟨t, ht⟩ : ∃ t, min (b - 8 * (k : Int)).toNat 8 = t := ⟨_, rfl⟩
      have hx' := y4.get k
      rw [hx] at hx'
      have ex : lr.getD k 0 = x := by rw [qe.out k hlt, if_neg (Nat.lt_irrefl _), hx]
      have HS : Hid (lr.set k (yo x t 0) = lr) := by
        have : lr.set k (yo x t 0) = lr := by rw [yo_0, ← ex, List.getD_eq_getElem?_getD, List.getElem?_eq_getElem (by omega)]; simp
        exact this
      have HQ : Hid (Owns wr W2.heap.size (.slice a4 L.length c4) (lr.set k (yo x t 0))) := by
        have : Owns wr W2.heap.size (.slice a4 L.length c4) (lr.set k (yo x t 0)) := by rw [HS.out]; exact q1
        exact this
      have HX : Hid (L.getD k 0 = x ∧ min (b - 8 * (k : Int)).toNat 8 = t) := ⟨hx, ht⟩
      have HZ : Hid (x % 2 ^ (8 - t) = 0) := by
        have := mze.out k hlt
        rw [hx, ht] at this
        exact this
      have ht8 : t ≤ 8 := by omega
      have htb : Hid (∀ m : Nat, m < 8 → ((k : Int) * 8 + (m : Int) ≥ b ↔ t ≤ m)) := fun m hm => by
        rw [← ht]
        omega
      clear q1 hx ht ex HS
      go_wp2_with fail
      go_loopw [5] (fun i wr => ∃ (m : Nat), m ≤ 8 ∧ i = .int .i64 m ∧ Hid (Owns wr W2.heap.size (.slice a4 L.length c4) (lr.set k (yo x t m))) ∧ Below W2.heap.size W2 wr) (fun i _ => 8 - (intOf i).toNat)
      case atStart => exact ⟨0, Nat.zero_le _, rfl, HQ, qb⟩
      case round =>
        clear HQ qb
        obtain ⟨m, hm, rfl, q1, qb⟩ := hrel
        have pB := (HP2.out.kept qb).cell 3 (.int .i64 b) rfl
        by_cases hm8 : m < 8
        · have im : (m : Int) < 8 := by omega
          have wk1 : IntKind.i64.wrap ((k : Int) * 8) = (k : Int) * 8 := wraps_i64 _ (by omega) (by omega)
          have wk2 : IntKind.i64.wrap ((k : Int) * 8 + (m : Int)) = (k : Int) * 8 + (m : Int) := wraps_i64 _ (by omega) (by omega)
          by_cases hge : (k : Int) * 8 + (m : Int) ≥ b
          · obtain ⟨Y, hY⟩ : ∃ y, yo x t m = y := ⟨_, rfl⟩
            obtain ⟨Y', hY'⟩ : ∃ y, yo x t (m + 1) = y := ⟨_, rfl⟩
            have hstep := yo_step x t m ((htb.out m hm8).1 hge) hm8 hx'.1 hx'.2 HZ.out
            rw [hY, hY'] at hstep
            have q0 := q1.out
            rw [hY] at q0
            obtain ⟨g1', rfl, k1, k2, k3, k4, k5⟩ := q0.write (by rw [List.length_set]; exact hlr) k hlt
            have k3' : wr.cell? ⟨g1', k, none⟩ = some (.int .u8 Y) := by rw [k3]; simp [List.getD_eq_getElem?_getD, hlr, hlt]
            have KK : Hid (Owns (wr.setCell ⟨g1', k, none⟩ (.int .u8 Y')) W2.heap.size (.slice (some ⟨g1', 0, none⟩) L.length c4) (lr.set k Y')) := by
              have := k5 Y'
              rw [List.set_set] at this
              exact this
            have HY' : Hid (yo x t (m + 1) = Y') := hY'
            clear q0 q1 k3 k5 hY hY' htb qe
            go_wp2_with fail
            go_region
            all_goals go_wp2
            all_goals exact ⟨⟨m + 1, by omega, by go_num, by rw [HY'.out]; have kk := KK.out; exact kk, by first | exact (qb.setCell k1 _).drew | exact qb.drew.setCell k1 _⟩, by simp [intOf]; omega⟩
          · have eq : yo x t (m + 1) = yo x t m := yo_skip x t m (by have := (htb.out m hm8); omega)
            have HE : Hid (yo x t (m + 1) = yo x t m) := eq
            clear eq htb qe
            go_wp2
            refine ⟨⟨m + 1, by omega, by go_num, by rw [HE.out]; exact q1, qb⟩, by simp [intOf]; omega⟩
        · have im : ¬ (m : Int) < 8 := by omega
          have hm' : m = 8 := by omega
          have q2 := q1.out
          rw [hm'] at q2
          rw [yo_8 x t ht8] at q2
          have HQ2 : Hid (Owns wr W2.heap.size (.slice a4 L.length c4) (lr.set k (x + 2 ^ (8 - t) - 1))) := q2
          clear q1 q2 hm' htb pB
          go_wp2
          refine ⟨⟨k + 1, lr.set k (x + 2 ^ (8 - t) - 1), by omega, by go_num, by rw [List.length_set]; exact hlr, HQ2.out, qb, fun j hj => ?_⟩, by simp [intOf]; omega⟩
          by_cases ejk : j = k
          · rw [ejk, if_pos (Nat.lt_succ_self _), List.getD_eq_getElem?_getD, List.getElem?_set_self (by omega)]
            rw [HX.out.1, HX.out.2]
            rfl
          · rw [List.getD_eq_getElem?_getD, List.getElem?_set_ne (by omega), ← List.getD_eq_getElem?_getD, qe.out j hj]
            by_cases c : j < k
            · rw [if_pos c, if_pos (by omega)]
            · rw [if_neg c, if_neg (by omega)]
    · have ik : ¬ (k : Int) < (L.length : Int) := by omega
      have ek : k = L.length := by omega
      have el : lr = Ad.bytes ⟨mf, mh, ml⟩ := by
        refine List.ext_getElem? fun j => ?_
        by_cases hj : j < L.length
        · have e1 := qe.out j hj
          rw [if_pos (by omega), ← mby.out j hj] at e1
          rw [List.getD_eq_getElem?_getD, List.getD_eq_getElem?_getD] at e1
          rw [List.getElem?_eq_getElem (by omega), List.getElem?_eq_getElem (by rw [mlen.out]; exact hj)] at e1 ⊢
          simpa using e1
        · rw [List.getElem?_eq_none (by omega), List.getElem?_eq_none (by rw [mlen.out]; omega)]
      have R5 : Blk wr W1.heap.size 31 #[.int .i64 0, .int .u64 0, .int .u64 0] := HR2.out.kept qb
      have b5 := bel_tr b2 qb
      have rr : Row wr a4 lr := by
        have := q1
        rw [← hlr] at this
        exact this.row (by omega) (by rw [el]; exact bytes_bytesM _)
      have KF : Hid (Calls Tryz.prog 115 #[.slice a4 L.length c4] wr fun e w' => e = .returned (.tuple #[.agg #[.int .i64 mf, .int .u64 mh, .int .u64 ml], .int .i64 0]) ∧ Below wr.heap.size wr w') := by
        have := rfrom_any a4 c4 lr wr rr
        rw [el, mfr.out, ← el, hlr] at this
        exact this
      clear q1 qe el rr ek hlr mby mlen mfr mze
      go_wp2_with fail
      refine Calls.mono KF.out ?_
      rintro e W6 ⟨rfl, bb⟩
      have R6 := R5.kept bb
      have b6 := bel_tr b5 bb
      have R7 := R6.alloc (.cells #[.int .i64 mf, .int .u64 mh, .int .u64 ml] 31)
      have b7 := bel_al b6 (W' := W6.alloc (.cells #[.int .i64 mf, .int .u64 mh, .int .u64 ml] 31)) rfl
      clear KF bb R5 b5
      go_wp2_with (refine wpList_st rfl 31 _ _ rfl W1.heap.size #[.int .i64 mf, .int .u64 mh, .int .u64 ml] #[.int .i64 0, .int .u64 0, .int .u64 0] (by rfl) (by rfl) R7 (by kernel_rfl) rfl (by kernel_rfl) ?_)
      exact ret_cell (k := 2) Tryz.f100 (by kernel_rfl) (R7.set _) Tryz.underlying31 (by kernel_rfl) (by rfl) rfl ⟨rfl, below_setRow b7 (Nat.le_of_lt g1) _⟩
set_option maxRecDepth 100000 in
set_option maxHeartbeats 4000000 in
theorem rnumber_pt (n : Int) (w : World) (h : 0 ≤ n ∧ n ≤ 18446744073709551615) : Calls Tryz.prog 57 #[.int .i64 n] w fun e w' => e = .returned (.agg (ptNum n).v) ∧ Below w.heap.size w w' := by
 have hw := wrapU h
 go_enter Tryz.func57, Tryz.ntmps57
 go_wp2
 exact ret_cell (k := 2) Tryz.f57 (by kernel_rfl) (blk_new w (ptNum n).v 86) Tryz.underlying86 (by kernel_rfl) (by rfl) rfl ⟨rfl, bel_nw rfl⟩
set_option maxRecDepth 100000 in
set_option maxHeartbeats 4000000 in
theorem raddress_pt (a : Ad) (w : World) (h : 0 ≤ a.fam ∧ a.fam ≤ 18446744073709551615) : Calls Tryz.prog 58 #[.agg #[.int .i64 a.fam, .int .u64 a.hi, .int .u64 a.lo]] w fun e w' => e = .returned (.agg (ptAd a).v) ∧ Below w.heap.size w w' := by
 have hw := wrapU h
 go_enter Tryz.func58, Tryz.ntmps58
 go_wp2
 exact ret_cell (k := 2) (g := w.heap.size + 1) Tryz.f58 (by kernel_rfl) (blk1 w _ (ptAd a).v 86) Tryz.underlying86 (by kernel_rfl) (by rfl) rfl ⟨rfl, bel_al (bel_nw rfl) rfl⟩
set_option maxRecDepth 100000 in
set_option maxHeartbeats 4000000 in
theorem spot_0 (k : Ky) (w : World) (hr : k.right = true) :
  Calls Tryz.prog 85 #[.agg k.v, .int .i64 0] w fun e w' => e = .returned (.agg (k.spot 0).v) ∧ Below w.heap.size w w' := by
 obtain ⟨k1, k2, k3, k4, k5, k6, k7⟩ := Ky.right_all hr
 have K : Hid (∀ W, Calls Tryz.prog 104 #[.int .i64 k.fr] W fun e w' => e = .returned (.agg (k.spot 0).v) ∧ Below W.heap.size W w') := fun W => number_pt k.fr W (by omega)
 clear k1 k2 k3 k4 k5 k6 k7 hr
 generalize k.spot 0 = P at *
 obtain ⟨W1, hW1⟩ : ∃ W1, w.alloc (.cells k.v 33) = W1 := ⟨_, rfl⟩
 obtain ⟨W2, hW2⟩ : ∃ W2, W1.alloc (.cells z3 86) = W2 := ⟨_, rfl⟩
 have b1 := bel_nw hW1
 have b2 := bel_al b1 hW2
 have B1' := blk_nw hW1
 have B1 := B1'.al hW2
 have B2 := blk_nw hW2
 have gw : w.heap.size ≤ W1.heap.size := Nat.le_of_lt B1'.lt
 have c0 := B1.cell 0 (.int .i64 k.fr) rfl
 clear B1' b1 B1
 generalize k.v = RV at *
 go_enter Tryz.func85, Tryz.ntmps85
 go_wp2_with fail
 refine (K.out _).mono ?_
 rintro e' W3 ⟨rfl, bb⟩
 have B3 := B2.kept bb
 have b3 := bel_tr b2 bb
 clear K bb B2 hW1 hW2 b2 c0
 go_wp2_with (refine wpList_st rfl 86 _ _ rfl W1.heap.size P.v z3 (by rfl) (by rfl) B3 (by kernel_rfl) rfl (by kernel_rfl) ?_)
 exact ret_cell (k := 4) Tryz.f85 (by kernel_rfl) (B3.set _) Tryz.underlying86 (by kernel_rfl) (by rfl) rfl ⟨rfl, below_setRow b3 gw _⟩
set_option maxRecDepth 100000 in
set_option maxHeartbeats 4000000 in
theorem spot_1 (k : Ky) (w : World) (hr : k.right = true) :
  Calls Tryz.prog 85 #[.agg k.v, .int .i64 1] w fun e w' => e = .returned (.agg (k.spot 1).v) ∧ Below w.heap.size w w' := by
 obtain ⟨k1, k2, k3, k4, k5, k6, k7⟩ := Ky.right_all hr
 have K : Hid (∀ W, Calls Tryz.prog 104 #[.int .i64 k.tz] W fun e w' => e = .returned (.agg (k.spot 1).v) ∧ Below W.heap.size W w') := fun W => number_pt k.tz W (by omega)
 clear k1 k2 k3 k4 k5 k6 k7 hr
 generalize k.spot 1 = P at *
 obtain ⟨W1, hW1⟩ : ∃ W1, w.alloc (.cells k.v 33) = W1 := ⟨_, rfl⟩
 obtain ⟨W2, hW2⟩ : ∃ W2, W1.alloc (.cells z3 86) = W2 := ⟨_, rfl⟩
 have b1 := bel_nw hW1
 have b2 := bel_al b1 hW2
 have B1' := blk_nw hW1
 have B1 := B1'.al hW2
 have B2 := blk_nw hW2
 have gw : w.heap.size ≤ W1.heap.size := Nat.le_of_lt B1'.lt
 have c1 := B1.cell 1 (.int .i64 k.tz) rfl
 clear B1' b1 B1
 generalize k.v = RV at *
 go_enter Tryz.func85, Tryz.ntmps85
 go_wp2_with fail
 refine (K.out _).mono ?_
 rintro e' W3 ⟨rfl, bb⟩
 have B3 := B2.kept bb
 have b3 := bel_tr b2 bb
 clear K bb B2 hW1 hW2 b2 c1
 go_wp2_with (refine wpList_st rfl 86 _ _ rfl W1.heap.size P.v z3 (by rfl) (by rfl) B3 (by kernel_rfl) rfl (by kernel_rfl) ?_)
 exact ret_cell (k := 4) Tryz.f85 (by kernel_rfl) (B3.set _) Tryz.underlying86 (by kernel_rfl) (by rfl) rfl ⟨rfl, below_setRow b3 gw _⟩
set_option maxRecDepth 100000 in
set_option maxHeartbeats 4000000 in
theorem spot_2 (k : Ky) (w : World) (hr : k.right = true) :
  Calls Tryz.prog 85 #[.agg k.v, .int .i64 2] w fun e w' => e = .returned (.agg (k.spot 2).v) ∧ Below w.heap.size w w' := by
 obtain ⟨k1, k2, k3, k4, k5, k6, k7⟩ := Ky.right_all hr
 have K : Hid (∀ W, Calls Tryz.prog 105 #[.agg #[.int .i64 k.s.fam, .int .u64 k.s.hi, .int .u64 k.s.lo]] W fun e w' => e = .returned (.agg (k.spot 2).v) ∧ Below W.heap.size W w') := fun W => address_pt k.s W (by have := right_fam k3; omega)
 clear k1 k2 k3 k4 k5 k6 k7 hr
 generalize k.spot 2 = P at *
 obtain ⟨W1, hW1⟩ : ∃ W1, w.alloc (.cells k.v 33) = W1 := ⟨_, rfl⟩
 obtain ⟨W2, hW2⟩ : ∃ W2, W1.alloc (.cells z3 86) = W2 := ⟨_, rfl⟩
 have b1 := bel_nw hW1
 have b2 := bel_al b1 hW2
 have B1' := blk_nw hW1
 have B1 := B1'.al hW2
 have B2 := blk_nw hW2
 have gw : w.heap.size ≤ W1.heap.size := Nat.le_of_lt B1'.lt
 have c2 := B1.cell 2 (.int .i64 k.s.fam) rfl
 have c3 := B1.cell 3 (.int .u64 k.s.hi) rfl
 have c4 := B1.cell 4 (.int .u64 k.s.lo) rfl
 clear B1' b1 B1
 generalize k.v = RV at *
 go_enter Tryz.func85, Tryz.ntmps85
 go_wp2_with fail
 refine (K.out _).mono ?_
 rintro e' W3 ⟨rfl, bb⟩
 have B3 := B2.kept bb
 have b3 := bel_tr b2 bb
 clear K bb B2 hW1 hW2 b2 c2 c3 c4
 go_wp2_with (refine wpList_st rfl 86 _ _ rfl W1.heap.size P.v z3 (by rfl) (by rfl) B3 (by kernel_rfl) rfl (by kernel_rfl) ?_)
 exact ret_cell (k := 4) Tryz.f85 (by kernel_rfl) (B3.set _) Tryz.underlying86 (by kernel_rfl) (by rfl) rfl ⟨rfl, below_setRow b3 gw _⟩
set_option maxRecDepth 100000 in
set_option maxHeartbeats 4000000 in
theorem spot_3 (k : Ky) (w : World) (hr : k.right = true) :
  Calls Tryz.prog 85 #[.agg k.v, .int .i64 3] w fun e w' => e = .returned (.agg (k.spot 3).v) ∧ Below w.heap.size w w' := by
 obtain ⟨k1, k2, k3, k4, k5, k6, k7⟩ := Ky.right_all hr
 have K : Hid (∀ W, Calls Tryz.prog 105 #[.agg #[.int .i64 k.d.fam, .int .u64 k.d.hi, .int .u64 k.d.lo]] W fun e w' => e = .returned (.agg (k.spot 3).v) ∧ Below W.heap.size W w') := fun W => address_pt k.d W (by have := right_fam k4; omega)
 clear k1 k2 k3 k4 k5 k6 k7 hr
 generalize k.spot 3 = P at *
 obtain ⟨W1, hW1⟩ : ∃ W1, w.alloc (.cells k.v 33) = W1 := ⟨_, rfl⟩
 obtain ⟨W2, hW2⟩ : ∃ W2, W1.alloc (.cells z3 86) = W2 := ⟨_, rfl⟩
 have b1 := bel_nw hW1
 have b2 := bel_al b1 hW2
 have B1' := blk_nw hW1
 have B1 := B1'.al hW2
 have B2 := blk_nw hW2
 have gw : w.heap.size ≤ W1.heap.size := Nat.le_of_lt B1'.lt
 have c5 := B1.cell 5 (.int .i64 k.d.fam) rfl
 have c6 := B1.cell 6 (.int .u64 k.d.hi) rfl
 have c7 := B1.cell 7 (.int .u64 k.d.lo) rfl
 clear B1' b1 B1
 generalize k.v = RV at *
 go_enter Tryz.func85, Tryz.ntmps85
 go_wp2_with fail
 refine (K.out _).mono ?_
 rintro e' W3 ⟨rfl, bb⟩
 have B3 := B2.kept bb
 have b3 := bel_tr b2 bb
 clear K bb B2 hW1 hW2 b2 c5 c6 c7
 go_wp2_with (refine wpList_st rfl 86 _ _ rfl W1.heap.size P.v z3 (by rfl) (by rfl) B3 (by kernel_rfl) rfl (by kernel_rfl) ?_)
 exact ret_cell (k := 4) Tryz.f85 (by kernel_rfl) (B3.set _) Tryz.underlying86 (by kernel_rfl) (by rfl) rfl ⟨rfl, below_setRow b3 gw _⟩
set_option maxRecDepth 100000 in
set_option maxHeartbeats 4000000 in
theorem spot_4 (k : Ky) (w : World) (hr : k.right = true) :
  Calls Tryz.prog 85 #[.agg k.v, .int .i64 4] w fun e w' => e = .returned (.agg (k.spot 4).v) ∧ Below w.heap.size w w' := by
 obtain ⟨k1, k2, k3, k4, k5, k6, k7⟩ := Ky.right_all hr
 have K : Hid (∀ W, Calls Tryz.prog 104 #[.int .i64 k.pr] W fun e w' => e = .returned (.agg (k.spot 4).v) ∧ Below W.heap.size W w') := fun W => number_pt k.pr W (by omega)
 clear k1 k2 k3 k4 k5 k6 k7 hr
 generalize k.spot 4 = P at *
 obtain ⟨W1, hW1⟩ : ∃ W1, w.alloc (.cells k.v 33) = W1 := ⟨_, rfl⟩
 obtain ⟨W2, hW2⟩ : ∃ W2, W1.alloc (.cells z3 86) = W2 := ⟨_, rfl⟩
 have b1 := bel_nw hW1
 have b2 := bel_al b1 hW2
 have B1' := blk_nw hW1
 have B1 := B1'.al hW2
 have B2 := blk_nw hW2
 have gw : w.heap.size ≤ W1.heap.size := Nat.le_of_lt B1'.lt
 have c8 := B1.cell 8 (.int .i64 k.pr) rfl
 clear B1' b1 B1
 generalize k.v = RV at *
 go_enter Tryz.func85, Tryz.ntmps85
 go_wp2_with fail
 refine (K.out _).mono ?_
 rintro e' W3 ⟨rfl, bb⟩
 have B3 := B2.kept bb
 have b3 := bel_tr b2 bb
 clear K bb B2 hW1 hW2 b2 c8
 go_wp2_with (refine wpList_st rfl 86 _ _ rfl W1.heap.size P.v z3 (by rfl) (by rfl) B3 (by kernel_rfl) rfl (by kernel_rfl) ?_)
 exact ret_cell (k := 4) Tryz.f85 (by kernel_rfl) (B3.set _) Tryz.underlying86 (by kernel_rfl) (by rfl) rfl ⟨rfl, below_setRow b3 gw _⟩
set_option maxRecDepth 100000 in
set_option maxHeartbeats 4000000 in
theorem spot_5 (k : Ky) (w : World) (hr : k.right = true) :
  Calls Tryz.prog 85 #[.agg k.v, .int .i64 5] w fun e w' => e = .returned (.agg (k.spot 5).v) ∧ Below w.heap.size w w' := by
 obtain ⟨k1, k2, k3, k4, k5, k6, k7⟩ := Ky.right_all hr
 have K : Hid (∀ W, Calls Tryz.prog 104 #[.int .i64 k.sp] W fun e w' => e = .returned (.agg (k.spot 5).v) ∧ Below W.heap.size W w') := fun W => number_pt k.sp W (by omega)
 clear k1 k2 k3 k4 k5 k6 k7 hr
 generalize k.spot 5 = P at *
 obtain ⟨W1, hW1⟩ : ∃ W1, w.alloc (.cells k.v 33) = W1 := ⟨_, rfl⟩
 obtain ⟨W2, hW2⟩ : ∃ W2, W1.alloc (.cells z3 86) = W2 := ⟨_, rfl⟩
 have b1 := bel_nw hW1
 have b2 := bel_al b1 hW2
 have B1' := blk_nw hW1
 have B1 := B1'.al hW2
 have B2 := blk_nw hW2
 have gw : w.heap.size ≤ W1.heap.size := Nat.le_of_lt B1'.lt
 have c9 := B1.cell 9 (.int .i64 k.sp) rfl
 clear B1' b1 B1
 generalize k.v = RV at *
 go_enter Tryz.func85, Tryz.ntmps85
 go_wp2_with fail
 refine (K.out _).mono ?_
 rintro e' W3 ⟨rfl, bb⟩
 have B3 := B2.kept bb
 have b3 := bel_tr b2 bb
 clear K bb B2 hW1 hW2 b2 c9
 go_wp2_with (refine wpList_st rfl 86 _ _ rfl W1.heap.size P.v z3 (by rfl) (by rfl) B3 (by kernel_rfl) rfl (by kernel_rfl) ?_)
 exact ret_cell (k := 4) Tryz.f85 (by kernel_rfl) (B3.set _) Tryz.underlying86 (by kernel_rfl) (by rfl) rfl ⟨rfl, below_setRow b3 gw _⟩
set_option maxRecDepth 100000 in
set_option maxHeartbeats 4000000 in
theorem spot_6 (k : Ky) (w : World) (hr : k.right = true) :
  Calls Tryz.prog 85 #[.agg k.v, .int .i64 6] w fun e w' => e = .returned (.agg (k.spot 6).v) ∧ Below w.heap.size w w' := by
 obtain ⟨k1, k2, k3, k4, k5, k6, k7⟩ := Ky.right_all hr
 have K : Hid (∀ W, Calls Tryz.prog 104 #[.int .i64 k.dp] W fun e w' => e = .returned (.agg (k.spot 6).v) ∧ Below W.heap.size W w') := fun W => number_pt k.dp W (by omega)
 clear k1 k2 k3 k4 k5 k6 k7 hr
 generalize k.spot 6 = P at *
 obtain ⟨W1, hW1⟩ : ∃ W1, w.alloc (.cells k.v 33) = W1 := ⟨_, rfl⟩
 obtain ⟨W2, hW2⟩ : ∃ W2, W1.alloc (.cells z3 86) = W2 := ⟨_, rfl⟩
 have b1 := bel_nw hW1
 have b2 := bel_al b1 hW2
 have B1' := blk_nw hW1
 have B1 := B1'.al hW2
 have B2 := blk_nw hW2
 have gw : w.heap.size ≤ W1.heap.size := Nat.le_of_lt B1'.lt
 have c10 := B1.cell 10 (.int .i64 k.dp) rfl
 clear B1' b1 B1
 generalize k.v = RV at *
 go_enter Tryz.func85, Tryz.ntmps85
 go_wp2_with fail
 refine (K.out _).mono ?_
 rintro e' W3 ⟨rfl, bb⟩
 have B3 := B2.kept bb
 have b3 := bel_tr b2 bb
 clear K bb B2 hW1 hW2 b2 c10
 go_wp2_with (refine wpList_st rfl 86 _ _ rfl W1.heap.size P.v z3 (by rfl) (by rfl) B3 (by kernel_rfl) rfl (by kernel_rfl) ?_)
 exact ret_cell (k := 4) Tryz.f85 (by kernel_rfl) (B3.set _) Tryz.underlying86 (by kernel_rfl) (by rfl) rfl ⟨rfl, below_setRow b3 gw _⟩
theorem spot_any (k : Ky) (d : Nat) (hd : d < 7) (w : World) (hr : k.right = true) :
  Calls Tryz.prog 85 #[.agg k.v, .int .i64 (d : Int)] w fun e w' => e = .returned (.agg (k.spot d).v) ∧ Below w.heap.size w w' := by
 match d, hd with
 | 0, _ => exact spot_0 k w hr
 | 1, _ => exact spot_1 k w hr
 | 2, _ => exact spot_2 k w hr
 | 3, _ => exact spot_3 k w hr
 | 4, _ => exact spot_4 k w hr
 | 5, _ => exact spot_5 k w hr
 | 6, _ => exact spot_6 k w hr
end Go.Proofs.YtmfgjicfdjjihaaGreatDoor
