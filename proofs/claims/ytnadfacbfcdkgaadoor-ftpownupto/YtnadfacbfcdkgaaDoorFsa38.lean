/- Texts joined: FtP -/
import Derived.Test.YtnadfacbfcdkgaaDoorFsa34
import Derived.Test.YtnadfacbfcdkgaaDoorFsa37
namespace Go.Proofs.YtnadfacbfcdkgaaDoor
open Go.RowKit
set_option linter.unusedVariables false
set_option linter.unusedSimpArgs false
theorem fm_next {T : List (List UInt8)} {f : List UInt8 → Option As} {k : Nat} {x : List UInt8} (h : T[k]? = some x) : (T.take (k + 1)).filterMap f = (T.take k).filterMap f ++ (f x).toList := by
  rw [List.take_add_one, h, List.filterMap_append]
  cases hx : f x <;> simp [hx]
theorem fm_len (T : List (List UInt8)) (f : List UInt8 → Option As) (k : Nat) : ((T.take k).filterMap f).length ≤ k := Nat.le_trans (List.length_filterMap_le _ _) (List.length_take_le _ _)
set_option maxRecDepth 100000 in
set_option maxHeartbeats 4000000 in
theorem asks_ft (fam side : Int) (a : Option Addr) (c : Nat) (l : List Int) (w : World) (m : Int) (M : Mx m w) (hr : Row w a l) (hl : l.length ≤ 4294967280) :
    Calls Tryd.prog 17 #[.int .i64 fam, .int .i64 side, .slice a l.length c] w fun e w' => ∃ a' k, e = .returned (.slice a' (asF fam side (strOfNums l).data.toList).length k) ∧ GotA w (asF fam side (strOfNums l).data.toList) w' a' k := by
  have hcv := conv_row hr c
  have hsz := strOfNums_size l
  have KL := firstLines_ft (strOfNums l) 8 w (by omega) (by omega)
  obtain ⟨T, hT⟩ : ∃ T, (lnF (strOfNums l).data.toList).take 8 = T := ⟨_, rfl⟩
  have has : asF fam side (strOfNums l).data.toList = T.filterMap (plF fam side) := by unfold asF; rw [hT]
  rw [hT] at KL
  rw [has]
  have hT8 : T.length ≤ 8 := by rw [← hT]; exact List.length_take_le _ _
  clear hT has hsz hr
  have K : Hid (Calls Tryd.prog 19 #[.string (strOfNums l), .int .i64 8] w fun e w' => ∃ a' k xs, e = .returned (.slice a' xs.length k) ∧ GotL w w.heap.size T w' a' k xs) := KL
  clear KL
  generalize strOfNums l = s at *
  obtain ⟨S, hS⟩ : ∃ S, T.filterMap (plF fam side) = S := ⟨_, rfl⟩
  rw [hS]
  have HS : Hid (T.filterMap (plF fam side) = S) := hS
  clear hS
  go_enter Tryd.func17, Tryd.ntmps17
  go_wp2_with fail
  refine Calls.mono K.out ?_
  rintro e W1 ⟨ax, kx, xs, rfl, g1⟩
  have HP : Hid (xs.map (·.data.toList) = T) := g1.parts
  have b1 := g1.below
  have M1 := M.kept b1
  have hrow := g1.owns.row
  have hxl : xs.length = T.length := by have := congrArg List.length g1.parts; simpa using this
  clear g1 K M hcv
  go_wp2
  go_loopw [7, 16] (fun v i w' => ∃ (k : Nat) (L : List As) (av : Option Addr) (cv : Nat), k ≤ xs.length ∧ i = .int .i64 k ∧ v = .slice av L.length cv ∧ OwnAs w' W1.heap.size av cv L ∧ Below W1.heap.size W1 w' ∧ Hid (L = (T.take k).filterMap (plF fam side))) (fun _ i _ => xs.length - (intOf i).toNat)
  case atStart => exact ⟨0, [], none, 0, Nat.zero_le _, rfl, rfl, OwnAs.nil _ _, Below.refl _ _, rfl⟩
  case round =>
    obtain ⟨k, L, av, cv, hk, rfl, rfl, own, bel, hL⟩ := hrel
    have zr := bel.size
    by_cases hlw : k < xs.length
    · have ilt : (k : Int) < (xs.length : Int) := by omega
      obtain ⟨bs, offs, rfl, hcs⟩ := (hrow.below bel) (by omega)
      have hx := hcs k _ (List.getElem?_eq_getElem hlw)
      have hTx : T[k]? = some (xs[k]'hlw).data.toList := by rw [← HP.out, List.getElem?_map, List.getElem?_eq_getElem hlw]; rfl
      generalize xs[k] = x at hx hTx
      have hx' : wr.cell? ⟨bs, offs + k, none⟩ = some (.string x) := hx
      have hnx := fm_next (f := plF fam side) hTx
      obtain ⟨⟨P, kk⟩, hP⟩ : ∃ p, askT (plF fam side x.data.toList) = p := ⟨_, rfl⟩
      have K : Hid (Calls Tryd.prog 14 #[.int .i64 fam, .int .i64 side, .string x] wr fun e w' => e = .returned (.tuple #[.agg P.v, .bool kk]) ∧ Below wr.heap.size wr w') := by
        have h := place_any fam side x.data.toList m wr (M1.kept bel)
        rw [ba_eta, hP] at h
        exact h
      have hopt : (plF fam side x.data.toList).toList = if kk = true then [P] else [] := by
        cases hpl : plF fam side x.data.toList with
        | none => rw [hpl] at hP; obtain ⟨rfl, rfl⟩ := Prod.mk.inj hP; rfl
        | some q => rw [hpl] at hP; obtain ⟨rfl, rfl⟩ := Prod.mk.inj hP; rfl
      rw [hopt] at hnx
      clear hP hopt hTx hcs
      go_wp2_with fail
      refine Calls.mono K.out ?_
      rintro e W2 ⟨rfl, b2⟩
      obtain ⟨W3, hW3⟩ : ∃ W, W2.alloc (.cells #[.int .i64 0, .int .i64 0, .int .u64 0, .int .u64 0, .int .i64 0] 32) = W := ⟨_, rfl⟩
      have Q3 : Blk W3 W2.heap.size 32 as0.v := blk_nw hW3
      obtain ⟨W4, hW4⟩ : ∃ W, W3.setRow W2.heap.size P.v = W := ⟨_, rfl⟩
      have Q4 : Blk W4 W2.heap.size 32 P.v := hW4 ▸ Q3.set P.v
      have b24 : Below W2.heap.size W2 W4 := hW4 ▸ below_setRow (bel_nw hW3) (Nat.le_refl _) P.v
      have br4 : Below wr.heap.size wr W4 := b2.trans (b24.mono b2.size)
      have b14 : Below W1.heap.size W1 W4 := bel.trans (br4.mono zr)
      have own4 := own.below br4
      have z4 := b14.size
      clear K b2 b24 br4 hx hx'
      cases kk with
      | false =>
        have hL' : Hid (L = (T.take (k + 1)).filterMap (plF fam side)) := by show _ = _; rw [hnx, ← hL.out]; simp
        clear hnx hL own
        go_wp2_with (first | (refine wpList_store_ft rfl 32 _ _ rfl W2.heap.size P.v as0.v (by rfl) (by rfl) Q3 (info_as _ _ _ _ _) rfl (by simp [Value.oneCell']) ?_; rw [hW4]))
        exact ⟨⟨k + 1, L, av, cv, by omega, int_eq (by omega), rfl, own4, b14, hL'⟩, by simp [intOf]; omega⟩
      | true =>
        obtain ⟨W5, hW5⟩ : ∃ W, W4.alloc (.cells P.v 32) = W := ⟨_, rfl⟩
        have N5 : Blk W5 W4.heap.size 32 P.v := blk_nw hW5
        have own5 := own4.below (bel_nw hW5)
        have b15 : Below W1.heap.size W1 W5 := b14.trans ((bel_nw hW5).mono z4)
        have z5 := b15.size
        have hLk : L.length ≤ k := by rw [hL.out]; exact fm_len _ _ _
        obtain ⟨ga, ca, W6, hrun, O6, gr, bl⟩ := run_appAs W5 37 W1.heap.size av cv L own5 W4.heap.size 1 _ P N5 (by omega) z5
        have hL' : Hid (L ++ [P] = (T.take (k + 1)).filterMap (plF fam side)) := by show _ = _; rw [hnx, ← hL.out]; rfl
        have b16 : Below W1.heap.size W1 W6 := b15.trans bl
        clear hnx hL own own4 own5 gr bl N5 b15 b14
        go_wp2_with (first | (refine wpList_store_ft rfl 32 _ _ rfl W2.heap.size P.v as0.v (by rfl) (by rfl) Q3 (info_as _ _ _ _ _) rfl (by simp [Value.oneCell']) ?_; rw [hW4]) | (refine wpList_load_blk_w (by rfl) _ _ rfl W2.heap.size (by rfl) _ Q4 Tryd.underlying32 (info_as _ _ _ _ _) ?_) | (refine wpList_rnF rfl 37 _ _ rfl _ _ (by rfl) (by rfl) _ _ hrun ?_))
        have hap : (L ++ [P]).length = L.length + 1 := by simp
        exact ⟨⟨k + 1, L ++ [P], some ⟨ga, 0, none⟩, ca, by omega, int_eq (by omega), by rw [hap], O6, b16, hL'⟩, by simp [intOf]; omega⟩
    · have ilt : ¬ (k : Int) < (xs.length : Int) := by omega
      have e1 : L = S := by rw [hL.out, ← HS.out, List.take_of_length_le (by omega)]
      subst e1
      clear hL
      go_wp2
      go_ret
      exact ⟨_, _, rfl, ⟨own.base b1.size, b1.trans (bel.mono b1.size)⟩⟩
set_option maxRecDepth 100000 in
set_option maxHeartbeats 4000000 in
theorem rasks_ft (fam side : Int) (a : Option Addr) (c : Nat) (l : List Int) (w : World) (hr : Row w a l) (hlc : l.length ≤ c) (hl : l.length ≤ 4294967280) :
    Calls Tryd.prog 18 #[.int .i64 fam, .int .i64 side, .slice a l.length c] w fun e w' => ∃ a' k, e = .returned (.slice a' (asF fam side (strOfNums l).data.toList).length k) ∧ GotA w (asF fam side (strOfNums l).data.toList) w' a' k := by
  have KL := rlines_ft a c l w hr hlc hl
  obtain ⟨T, hT⟩ : ∃ T, lnF (strOfNums l).data.toList = T := ⟨_, rfl⟩
  have has : asF fam side (strOfNums l).data.toList = (T.take 8).filterMap (plF fam side) := by unfold asF; rw [hT]
  rw [hT] at KL
  rw [has]
  have hTl : T.length ≤ 4294967280 := by
    rw [← hT]
    have h1 := lnP_len (strOfNums l).data.toList [] false
    have h2 : (strOfNums l).data.toList.length = l.length := by rw [strOfNums_data]; simp
    show (lnP _ _ _).length ≤ _
    omega
  have K : Hid (Calls Tryd.prog 12 #[.slice a l.length c] w fun e w' => ∃ a' k xs, e = .returned (.slice a' xs.length k) ∧ GotL w w.heap.size T w' a' k xs) := KL
  clear KL hT has hr
  obtain ⟨S, hS⟩ : ∃ S, (T.take 8).filterMap (plF fam side) = S := ⟨_, rfl⟩
  rw [hS]
  have HS : Hid ((T.take 8).filterMap (plF fam side) = S) := hS
  clear hS
  go_enter Tryd.func18, Tryd.ntmps18
  go_wp2_with fail
  refine Calls.mono K.out ?_
  rintro e W1 ⟨ax, kx, xs, rfl, g1⟩
  have HP : Hid (xs.map (·.data.toList) = T) := g1.parts
  have b1 := g1.below
  have hrow := g1.owns.row
  have hxl : xs.length = T.length := by have := congrArg List.length g1.parts; simpa using this
  clear g1 K
  go_wp2
  go_loopw [8, 9] (fun v i w' => ∃ (k : Nat) (L : List As) (av : Option Addr) (cv : Nat), (k ≤ xs.length ∧ k ≤ 8) ∧ i = .int .i64 k ∧ v = .slice av L.length cv ∧ OwnAs w' W1.heap.size av cv L ∧ Below W1.heap.size W1 w' ∧ Hid (L = (T.take k).filterMap (plF fam side))) (fun _ i _ => 8 - (intOf i).toNat)
  case atStart => exact ⟨0, [], none, 0, ⟨Nat.zero_le _, Nat.zero_le _⟩, rfl, rfl, OwnAs.nil _ _, Below.refl _ _, rfl⟩
  case round =>
    obtain ⟨k, L, av, cv, ⟨hk, hk8⟩, rfl, rfl, own, bel, hL⟩ := hrel
    have zr := bel.size
    by_cases hlw' : k < xs.length ∧ k < 8
    · obtain ⟨hlw, hl8⟩ := hlw'
      have ilt : (k : Int) < (xs.length : Int) := by omega
      have ilt8 : (k : Int) < 8 := by omega
      obtain ⟨bs, offs, rfl, hcs⟩ := (hrow.below bel) (by omega)
      have hx := hcs k _ (List.getElem?_eq_getElem hlw)
      have hTx : T[k]? = some (xs[k]'hlw).data.toList := by rw [← HP.out, List.getElem?_map, List.getElem?_eq_getElem hlw]; rfl
      generalize xs[k] = x at hx hTx
      have hx' : wr.cell? ⟨bs, offs + k, none⟩ = some (.string x) := hx
      have hnx := fm_next (f := plF fam side) hTx
      obtain ⟨⟨P, kk⟩, hP⟩ : ∃ p, askT (plF fam side x.data.toList) = p := ⟨_, rfl⟩
      have K : Hid (Calls Tryd.prog 15 #[.int .i64 fam, .int .i64 side, .string x] wr fun e w' => e = .returned (.tuple #[.agg P.v, .bool kk]) ∧ Below wr.heap.size wr w') := by
        have h := rplace_ft fam side x wr
        rw [hP] at h
        exact h
      have hopt : (plF fam side x.data.toList).toList = if kk = true then [P] else [] := by
        cases hpl : plF fam side x.data.toList with
        | none => rw [hpl] at hP; obtain ⟨rfl, rfl⟩ := Prod.mk.inj hP; rfl
        | some q => rw [hpl] at hP; obtain ⟨rfl, rfl⟩ := Prod.mk.inj hP; rfl
      rw [hopt] at hnx
      clear hP hopt hTx hcs
      go_wp2_with fail
      refine Calls.mono K.out ?_
      rintro e W2 ⟨rfl, b2⟩
      obtain ⟨W3, hW3⟩ : ∃ W, W2.alloc (.cells #[.int .i64 0, .int .i64 0, .int .u64 0, .int .u64 0, .int .i64 0] 32) = W := ⟨_, rfl⟩
      have Q3 : Blk W3 W2.heap.size 32 as0.v := blk_nw hW3
      obtain ⟨W4, hW4⟩ : ∃ W, W3.setRow W2.heap.size P.v = W := ⟨_, rfl⟩
      have Q4 : Blk W4 W2.heap.size 32 P.v := hW4 ▸ Q3.set P.v
      have b24 : Below W2.heap.size W2 W4 := hW4 ▸ below_setRow (bel_nw hW3) (Nat.le_refl _) P.v
      have br4 : Below wr.heap.size wr W4 := b2.trans (b24.mono b2.size)
      have b14 : Below W1.heap.size W1 W4 := bel.trans (br4.mono zr)
      have own4 := own.below br4
      have z4 := b14.size
      clear K b2 b24 br4 hx hx'
      cases kk with
      | false =>
        have hL' : Hid (L = (T.take (k + 1)).filterMap (plF fam side)) := by show _ = _; rw [hnx, ← hL.out]; simp
        clear hnx hL own
        go_wp2_with (first | (refine wpList_store_ft rfl 32 _ _ rfl W2.heap.size P.v as0.v (by rfl) (by rfl) Q3 (info_as _ _ _ _ _) rfl (by simp [Value.oneCell']) ?_; rw [hW4]))
        exact ⟨⟨k + 1, L, av, cv, ⟨by omega, by omega⟩, int_eq (by omega), rfl, own4, b14, hL'⟩, by simp [intOf]; omega⟩
      | true =>
        obtain ⟨W5, hW5⟩ : ∃ W, W4.alloc (.cells P.v 32) = W := ⟨_, rfl⟩
        have N5 : Blk W5 W4.heap.size 32 P.v := blk_nw hW5
        have own5 := own4.below (bel_nw hW5)
        have b15 : Below W1.heap.size W1 W5 := b14.trans ((bel_nw hW5).mono z4)
        have z5 := b15.size
        have hLk : L.length ≤ k := by rw [hL.out]; exact fm_len _ _ _
        obtain ⟨ga, ca, W6, hrun, O6, gr, bl⟩ := run_appAs W5 37 W1.heap.size av cv L own5 W4.heap.size 1 _ P N5 (by omega) z5
        have hL' : Hid (L ++ [P] = (T.take (k + 1)).filterMap (plF fam side)) := by show _ = _; rw [hnx, ← hL.out]; rfl
        have b16 : Below W1.heap.size W1 W6 := b15.trans bl
        clear hnx hL own own4 own5 gr bl N5 b15 b14
        go_wp2_with (first | (refine wpList_store_ft rfl 32 _ _ rfl W2.heap.size P.v as0.v (by rfl) (by rfl) Q3 (info_as _ _ _ _ _) rfl (by simp [Value.oneCell']) ?_; rw [hW4]) | (refine wpList_load_blk_w (by rfl) _ _ rfl W2.heap.size (by rfl) _ Q4 Tryd.underlying32 (info_as _ _ _ _ _) ?_) | (refine wpList_rnF rfl 37 _ _ rfl _ _ (by rfl) (by rfl) _ _ hrun ?_))
        have hap : (L ++ [P]).length = L.length + 1 := by simp
        exact ⟨⟨k + 1, L ++ [P], some ⟨ga, 0, none⟩, ca, ⟨by omega, by omega⟩, int_eq (by omega), by rw [hap], O6, b16, hL'⟩, by simp [intOf]; omega⟩
    · have e1 : L = S := by
        rw [hL.out, ← HS.out]
        by_cases h8 : k < 8
        · rw [List.take_of_length_le (by omega : T.length ≤ k), List.take_of_length_le (by omega : T.length ≤ 8)]
        · rw [show k = 8 by omega]
      subst e1
      clear hL
      by_cases h8 : k < xs.length
      · have ilt : (k : Int) < (xs.length : Int) := by omega
        have ilt8 : ¬ (k : Int) < 8 := by omega
        go_wp2
        go_ret
        exact ⟨_, _, rfl, ⟨own.base b1.size, b1.trans (bel.mono b1.size)⟩⟩
      · have ilt : ¬ (k : Int) < (xs.length : Int) := by omega
        go_wp2
        go_ret
        exact ⟨_, _, rfl, ⟨own.base b1.size, b1.trans (bel.mono b1.size)⟩⟩
end Go.Proofs.YtnadfacbfcdkgaaDoor
