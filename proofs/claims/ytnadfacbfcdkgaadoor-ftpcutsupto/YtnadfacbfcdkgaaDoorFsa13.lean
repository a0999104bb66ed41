/- Texts joined: FtB -/
import Derived.Test.YtnadfacbfcdkgaaDoorFsa11
import Derived.Test.YtnadfacbfcdkgaaDoorFsa12
namespace Go.Proofs.YtnadfacbfcdkgaaDoor
open Go.RowKit
set_option linter.unusedVariables false
set_option linter.unusedSimpArgs false
abbrev As.v (q : As) : Array Value := #[.int .i64 q.pr, .int .i64 q.a.fam, .int .u64 q.a.hi, .int .u64 q.a.lo, .int .i64 q.po]
abbrev askV (o : Option As) : Value := .tuple #[.agg (askT o).1.v, .bool (askT o).2]
theorem info_as (a b c d e : Value) : (Tryd.prog.info? 32).map (·.size) = some (#[a, b, c, d, e] : Array Value).size := by kernel_rfl
def digN (r : Nat) : Bool := decide (48 ≤ r) && decide (r ≤ 57)
theorem isDigit_ft (r : Nat) (w : World) :
    Calls Tryd.prog 49 #[.int .i32 r] w fun e w' => e = .returned (.bool (digN r)) ∧ w' = w := by
  obtain ⟨T, hT⟩ : ∃ T, digN r = T := ⟨_, rfl⟩
  rw [hT]
  have HT : Hid (digN r = T) := hT
  clear hT
  go_enter Tryd.func49, Tryd.ntmps49
  by_cases h1 : 48 ≤ r
  · go_wp2
    go_ret
    exact ⟨by rw [← HT.out, digN]; by_cases h2 : r ≤ 57 <;> simp [h1, h2] <;> omega, rfl⟩
  · go_wp2
    go_ret
    exact ⟨by rw [← HT.out, digN]; simp [h1], rfl⟩
theorem upper_ft (r : Nat) (w : World) (hr : r ≤ 2147483647) :
    Calls Tryd.prog 38 #[.int .i32 r] w fun e w' => e = .returned (.int .i32 ((if 97 ≤ r ∧ r ≤ 122 then r - 32 else r : Nat) : Int)) ∧ w' = w := by
  by_cases h1 : 97 ≤ r ∧ r ≤ 122
  · rw [if_pos h1]
    obtain ⟨h1, h2⟩ := h1
    go_enter Tryd.func38, Tryd.ntmps38
    go_wp2
    go_ret
    exact ⟨by show Ending.returned (.int .i32 ((r : Int) - 97 + 65)) = _; rw [show (r : Int) - 97 + 65 = ((r - 32 : Nat) : Int) by omega], rfl⟩
  · rw [if_neg h1]
    go_enter Tryd.func38, Tryd.ntmps38
    rcases (by omega : r < 97 ∨ (97 ≤ r ∧ 122 < r)) with h | ⟨h, h'⟩
    all_goals clear h1
    all_goals go_wp2
    all_goals go_ret
    all_goals exact ⟨rfl, rfl⟩
set_option maxHeartbeats 1000000 in
theorem number_ft (s : ByteArray) (most : Nat) (w : World) (hs : s.size ≤ 9223372036854775807) (hmost : most ≤ 100000) :
    Calls Tryd.prog 40 #[.string s, .int .i64 most] w fun e w' => e = .returned (.tuple #[.int .i64 (num most s.data.toList).1, .bool (num most s.data.toList).2]) ∧ Below w.heap.size w w' := by
  obtain ⟨R, hR⟩ : ∃ R, num most s.data.toList = R := ⟨_, rfl⟩
  rw [hR]
  have HR : Hid (num most s.data.toList = R) := hR
  clear hR
  obtain ⟨T, hT⟩ : ∃ T, tell (numGo most s.data.toList 0 false) = T := ⟨_, rfl⟩
  have HT : Hid (tell (numGo most s.data.toList 0 false) = T) := hT
  clear hT
  have bel : ∀ p, Below w.heap.size w (w.iter s p) := fun p => (Below.refl _ _).alloc (Nat.le_refl _) _
  have KY : Hid (∀ (c : Nat) W, 48 ≤ c → c ≤ 57 → Calls Tryd.prog 49 #[.int .i32 c] W fun e w' => e = .returned (.bool true) ∧ w' = W) := fun c W h1 h2 => by have := isDigit_ft c W; rwa [show digN c = true by simp [digN, h1, h2]] at this
  have KN : Hid (∀ (c : Nat) W, (c < 48 ∨ 57 < c) → Calls Tryd.prog 49 #[.int .i32 c] W fun e w' => e = .returned (.bool false) ∧ w' = W) := fun c W h1 => by have := isDigit_ft c W; rwa [show digN c = false by simp [digN]; omega] at this
  have fall : 0 < s.size → T = (0, false) → R = (0, false) := fun h0 e => by
    rw [← HR.out, num, if_neg (by intro e; have h1 : s.data.toList.length = s.size := Array.length_toList; rw [e] at h1; simp at h1; omega), HT.out, e]
  go_enter Tryd.func40, Tryd.ntmps40
  go_wp2
  go_loopw [6] (fun n w' => ∃ p k : Nat, w' = w.iter s p ∧ p ≤ s.size ∧ n = .int .i64 k ∧ k ≤ most ∧ Hid (tell (numGo most (s.data.toList.drop p) k (decide (0 < p))) = T)) (fun _ w' => s.size - w'.iterPos w.heap.size)
  case atStart => exact ⟨0, 0, rfl, Nat.zero_le _, rfl, Nat.zero_le _, HT⟩
  case round =>
    obtain ⟨p, k, rfl, hp, rfl, hk, hr⟩ := hrel
    by_cases hlt : p < s.size
    · have f := fall (by omega)
      clear fall
      have hr1 := hr.out
      rw [drop_cons s p hlt] at hr1
      obtain ⟨c, hc⟩ : ∃ c, (s[p]'hlt).toNat = c := ⟨_, rfl⟩
      have hc8 : c < 256 := by rw [← hc]; exact (s[p]'hlt).toNat_lt
      unfold numGo at hr1
      rw [hc] at hr1
      have HQ : Hid (tell (if c < 48 ∨ 57 < c ∨ (decide (0 < p) = true ∧ k = 0) then none else if most < k * 10 + (c - 48) then none else numGo most (s.data.toList.drop (p + 1)) (k * 10 + (c - 48)) true) = T) := hr1
      clear hr hr1
      by_cases ha : c < 128
      · have hnx : ∀ ty, (Instr.next (.pointer (some ⟨w.heap.size, 0, none⟩)) true ty).run Tryd.prog (w.iter s p) = .ok (.tuple #[.bool true, .int .i64 p, .int .i32 c]) (w.iter s (p + 1)) := fun ty => by rw [← hc]; exact run_next_ascii w s p ty hlt (by omega)
        clear hc
        by_cases hd : 48 ≤ c ∧ c ≤ 57
        · obtain ⟨hd0, hd1⟩ := hd
          have K : Hid (∀ W, Calls Tryd.prog 49 #[.int .i32 c] W fun e w' => e = .returned (.bool true) ∧ w' = W) := fun W => KY.out c W hd0 hd1
          clear KY KN
          by_cases hz : 0 < p ∧ k = 0
          · obtain ⟨hz0, rfl⟩ := hz
            have e := f (by rw [← HQ.out, if_pos (.inr (.inr ⟨by simpa using hz0, rfl⟩))]; rfl)
            subst e
            clear f HQ
            go_wp2_with fail
            refine Calls.mono (K.out _) ?_
            rintro e W ⟨rfl, hW⟩
            subst hW
            go_wp2
            go_ret2
            exact ⟨rfl, bel _⟩
          · by_cases hm : most < k * 10 + (c - 48)
            · have e := f (by rw [← HQ.out, if_neg (by simp; omega), if_pos hm]; rfl)
              subst e
              clear f HQ
              have hm' : (most : Int) < (k : Int) * 10 + ((c : Int) - 48) := by omega
              by_cases hz1 : 0 < p
              · have hk0 : ¬ k = 0 := by omega
                go_wp2_with fail
                refine Calls.mono (K.out _) ?_
                rintro e W ⟨rfl, hW⟩
                subst hW
                go_wp2
                go_ret2
                exact ⟨rfl, bel _⟩
              · have hp0 : p = 0 := by omega
                subst hp0
                go_wp2_with fail
                refine Calls.mono (K.out _) ?_
                rintro e W ⟨rfl, hW⟩
                subst hW
                go_wp2
                go_ret2
                exact ⟨rfl, bel _⟩
            · have hq : Hid (tell (numGo most (s.data.toList.drop (p + 1)) (k * 10 + (c - 48)) true) = T) := by
                have := HQ.out
                rw [if_neg (by simp; omega), if_neg hm] at this
                exact this
              clear HQ f
              have hm' : ¬ (most : Int) < (k : Int) * 10 + ((c : Int) - 48) := by omega
              by_cases hz1 : 0 < p
              · have hk0 : ¬ k = 0 := by omega
                go_wp2_with fail
                refine Calls.mono (K.out _) ?_
                rintro e W ⟨rfl, hW⟩
                subst hW
                go_wp2
                exact ⟨⟨p + 1, k * 10 + (c - 48), rfl, by omega, int_eq (by omega), by omega, by simpa using hq⟩, by simp; omega⟩
              · have hp0 : p = 0 := by omega
                subst hp0
                go_wp2_with fail
                refine Calls.mono (K.out _) ?_
                rintro e W ⟨rfl, hW⟩
                subst hW
                go_wp2
                exact ⟨⟨0 + 1, k * 10 + (c - 48), rfl, by omega, int_eq (by omega), by omega, by simpa using hq⟩, by simp; omega⟩
        · have e := f (by rw [← HQ.out, if_pos (by omega)]; rfl)
          subst e
          have K : Hid (∀ W, Calls Tryd.prog 49 #[.int .i32 c] W fun e w' => e = .returned (.bool false) ∧ w' = W) := fun W => KN.out c W (by omega)
          clear f HQ KY KN
          go_wp2_with fail
          refine Calls.mono (K.out _) ?_
          rintro e W ⟨rfl, hW⟩
          subst hW
          go_wp2
          go_ret2
          exact ⟨rfl, bel _⟩
      · have e := f (by rw [← HQ.out, if_pos (by omega)]; rfl)
        subst e
        clear f HQ
        have hh := decode_high s p hlt (by omega)
        have hle := decode_le s p
        have hnx : ∀ ty, (Instr.next (.pointer (some ⟨w.heap.size, 0, none⟩)) true ty).run Tryd.prog (w.iter s p) = _ := fun ty => run_next_any w s p ty hlt
        generalize Utf8.decode s p = rr at *
        obtain ⟨r, q⟩ := rr
        simp only at hnx hh hle
        have K : Hid (∀ W, Calls Tryd.prog 49 #[.int .i32 r] W fun e w' => e = .returned (.bool false) ∧ w' = W) := fun W => KN.out r W (by omega)
        clear KY KN
        go_wp2_with fail
        refine Calls.mono (K.out _) ?_
        rintro e W ⟨rfl, hW⟩
        subst hW
        go_wp2
        go_ret2
        exact ⟨rfl, bel _⟩
    · have hnx : ∀ ty, (Instr.next (.pointer (some ⟨w.heap.size, 0, none⟩)) true ty).run Tryd.prog (w.iter s p) = _ := fun ty => run_next_end w s p ty hlt
      have e1 : T = ((k : Int), true) := by
        rw [← hr.out, drop_end s p hlt]; rfl
      go_wp2
      go_ret2
      refine ⟨?_, bel _⟩
      show Ending.returned (.tuple #[.int .i64 k, .bool (!s.toList.isEmpty)]) = _
      refine two_int ?_ ?_
      · rw [← HR.out, num]
        split
        · next h => rw [← HT.out, h] at e1; simp [numGo, tell] at e1; omega
        · rw [HT.out, e1]
      · rw [ByteArray.toList_eq, ← HR.out, num]
        split
        · next h => rw [h]; rfl
        · next h => rw [HT.out, e1]; cases hh : s.data.toList with
          | nil => exact absurd hh h
          | cons _ _ => rfl
theorem netOf_ft (fam : Int) (w : World) : Calls Tryd.prog 44 #[.int .i64 fam] w fun e w' => e = .returned (.string ⟨(netF fam).toArray⟩) ∧ w' = w := by
  by_cases h : fam = 4
  · rw [netF, if_pos h]
    go_enter Tryd.func44, Tryd.ntmps44
    go_wp2
    go_ret
    exact ⟨rfl, rfl⟩
  · rw [netF, if_neg h]
    go_enter Tryd.func44, Tryd.ntmps44
    go_wp2
    go_ret
    exact ⟨rfl, rfl⟩
theorem mayBeD_ft (c : UInt8) (n : Nat) (hn : c.toNat = n) (w : World) : Calls Tryd.prog 50 #[.int .u8 n] w fun e w' => e = .returned (.bool (mayD c)) ∧ w' = w := by
  have hm : mayD c = (decide (33 ≤ n) && decide (n ≤ 126) && !digN n) := by unfold mayD digN; rw [hn]
  rw [hm]
  have hb : n < 256 := by rw [← hn]; exact c.toNat_lt
  clear hm hn c
  have K : Hid (∀ W, Calls Tryd.prog 49 #[.int .i32 n] W fun e w' => e = .returned (.bool (digN n)) ∧ w' = W) := fun W => isDigit_ft n W
  generalize digN n = D at *
  by_cases h1 : 33 ≤ n
  · by_cases h2 : n ≤ 126
    · rw [decide_eq_true h1, decide_eq_true h2]
      go_enter Tryd.func50, Tryd.ntmps50
      go_wp2_with fail
      refine Calls.mono (K.out _) ?_
      rintro e W ⟨rfl, rfl⟩
      go_wp2
      go_ret
      exact ⟨rfl, rfl⟩
    · rw [decide_eq_false h2]
      go_enter Tryd.func50, Tryd.ntmps50
      go_wp2
      go_ret
      exact ⟨by simp, rfl⟩
  · rw [decide_eq_false h1]
    go_enter Tryd.func50, Tryd.ntmps50
    go_wp2
    go_ret
    exact ⟨by simp, rfl⟩
theorem within_ft (s : ByteArray) (m : Int) (w : World) (hs : s.size < 4294967281) (hm : w.cell? ⟨0, 0, none⟩ = some (.int .i64 m)) :
    Calls Tryd.prog 32 #[.string s] w fun e w' => e = .returned (.string ⟨(wthF s.data.toList).toArray⟩) ∧ Below w.heap.size w w' := by
  have e1 : s.data.toList.length = s.size := Array.length_toList
  have hcs := cut_sizes s.data.toList [40]
  rw [e1] at hcs
  have KC : Hid (∀ (w : World), w.cell? ⟨0, 0, none⟩ = some (.int .i64 m) → Calls Tryd.prog 46 #[.string s, .string (ByteArray.mk #[40])] w fun e w' => e = .returned (.tuple #[.string ⟨(Lib.cut s.data.toList [40]).1.toArray⟩, .string ⟨(Lib.cut s.data.toList [40]).2.1.toArray⟩, .bool (Lib.cut s.data.toList [40]).2.2]) ∧ ∃ n, w' = w.drewN n) := fun w hm => Tryd.strings_Cut s (ByteArray.mk #[40]) m w (by omega) hm
  unfold wthF
  generalize Lib.cut s.data.toList [40] = C at *
  obtain ⟨t1, t2, ck⟩ := C
  simp only at KC hcs ⊢
  have s2 : (ByteArray.mk t2.toArray).size < 4294967281 := by show t2.toArray.size < _; simp; omega
  have KD : Hid (∀ (w : World), w.cell? ⟨0, 0, none⟩ = some (.int .i64 m) → Calls Tryd.prog 46 #[.string (ByteArray.mk t2.toArray), .string (ByteArray.mk #[41])] w fun e w' => e = .returned (.tuple #[.string ⟨(Lib.cut t2 [41]).1.toArray⟩, .string ⟨(Lib.cut t2 [41]).2.1.toArray⟩, .bool (Lib.cut t2 [41]).2.2]) ∧ ∃ n, w' = w.drewN n) := fun w hm => Tryd.strings_Cut (ByteArray.mk t2.toArray) (ByteArray.mk #[41]) m w (by omega) hm
  generalize Lib.cut t2 [41] = C2 at *
  obtain ⟨u1, u2, dk⟩ := C2
  simp only at KD ⊢
  go_enter Tryd.func32, Tryd.ntmps32
  go_wp2_with fail
  refine Calls.mono (KC.out _ hm) ?_
  rintro e W1 ⟨rfl, n1, rfl⟩
  go_wp2_with fail
  refine Calls.mono (KD.out _ (kept (below_drewN (Below.refl _ _) n1) hm)) ?_
  rintro e W2 ⟨rfl, n2, rfl⟩
  have b : Below w.heap.size w (w.drewN (n1 + n2)) := below_drewN (Below.refl _ _) (n1 + n2)
  cases dk with
  | false =>
    go_wp2
    go_ret
    exact ⟨rfl, b⟩
  | true =>
    go_wp2
    go_ret
    exact ⟨rfl, b⟩
theorem wpList_store_ft {ops : Array Oper} {rest : List Oper} {o : Oper} {ac : Act} {w : World} {Q : Exit → Act → World → Prop} (hgd : o.guard = none) (t : TypeId) (p x : Operand) (ho : o.op = Op.store t p x) (g : Nat) (cs old : Array Value)
    (hp : ac.eval p = .pointer (some ⟨g, 0, none⟩)) (hx : ac.eval x = .agg cs) (hb : Blk w g t old) (hi : (Tryd.prog.info? t).map (·.size) = some cs.size) (ho' : old.size = cs.size) (h1 : cs.all (·.oneCell') = true) (h : wpList Tryd.prog ops Q rest (ac.put o.dst undef) (w.setRow g cs)) : wpList Tryd.prog ops Q (o :: rest) ac w :=
  wpList_plain hgd fun K hK => wp_store_row t p x ho g cs hp hx t old hb hi ho' h1 (hK _ _ h)
abbrev z5A : Array Value := #[.int .i64 0, .int .i64 0, .int .u64 0, .int .u64 0, .int .i64 0]
set_option maxHeartbeats 1000000 in
theorem place_ft (a : Ad) (n : Int) (h : Bool) (w : World) :
    Calls Tryd.prog 42 #[.agg #[.int .i64 a.fam, .int .u64 a.hi, .int .u64 a.lo], .int .i64 n, .bool h] w fun e w' => e = .returned (askV (placeF a n h)) ∧ Below w.heap.size w w' := by
  obtain ⟨W0, hW0⟩ : ∃ W, w.alloc (.cells #[.int .i64 a.fam, .int .u64 a.hi, .int .u64 a.lo] 30) = W := ⟨_, rfl⟩
  obtain ⟨W1, hW1⟩ : ∃ W, W0.alloc (.cells #[.int .i64 0, .int .i64 0, .int .u64 0, .int .u64 0, .int .i64 0] 32) = W := ⟨_, rfl⟩
  have b0 := bel_nw hW0
  have b1 := bel_al b0 hW1
  have A1 := (blk_nw hW0).al hW1
  have Q1 := blk_nw hW1
  have c0 : W1.cell? ⟨w.heap.size, 0, none⟩ = some (.int .i64 a.fam) := A1.cell 0 _ rfl
  have c1 : W1.cell? ⟨w.heap.size, 1, none⟩ = some (.int .u64 a.hi) := A1.cell 1 _ rfl
  have c2 : W1.cell? ⟨w.heap.size, 2, none⟩ = some (.int .u64 a.lo) := A1.cell 2 _ rfl
  have z0 := b0.size
  clear A1
  have bn : ∀ cs, Below w.heap.size w (W1.setRow W0.heap.size cs) := fun cs => below_setRow b1 z0 cs
  have Qn : ∀ cs, Blk (W1.setRow W0.heap.size cs) W0.heap.size 32 cs := fun cs => Q1.set cs
  by_cases hc : h = true ∧ 1 ≤ n ∧ n ≤ 65535
  · obtain ⟨rfl, h1, h2⟩ := hc
    rw [placeF, if_pos ⟨rfl, h1, h2⟩]
    have e1 : decide (n < 1) = false := by simpa using h1
    have e2 : decide (65535 < n) = false := by simpa using h2
    go_enter Tryd.func42, Tryd.ntmps42
    go_wp2_with (refine wpList_store_ft rfl 32 _ _ rfl W0.heap.size (As.v ⟨6, a, n⟩) z5A (by rfl) (by rfl) Q1 (info_as _ _ _ _ _) rfl (by simp [Value.oneCell']) ?_)
    exact ret_cell_tmp (k := 6) (j := 7) Tryd.f42 (by kernel_rfl) (Qn _) Tryd.underlying32 (info_as _ _ _ _ _) (by rfl) (by rfl) rfl ⟨rfl, bn _⟩
  · rw [placeF, if_neg hc]
    cases h with
    | false =>
      go_enter Tryd.func42, Tryd.ntmps42
      go_wp2_with (refine wpList_store_ft rfl 32 _ _ rfl W0.heap.size z5A z5A (by rfl) (by rfl) Q1 (info_as _ _ _ _ _) rfl (by simp [Value.oneCell']) ?_)
      exact ret_cell_tmp (k := 6) (j := 7) Tryd.f42 (by kernel_rfl) (Qn z5A) Tryd.underlying32 (info_as _ _ _ _ _) (by rfl) (by rfl) rfl ⟨rfl, bn _⟩
    | true =>
      by_cases h1 : n < 1
      · go_enter Tryd.func42, Tryd.ntmps42
        go_wp2_with (refine wpList_store_ft rfl 32 _ _ rfl W0.heap.size z5A z5A (by rfl) (by rfl) Q1 (info_as _ _ _ _ _) rfl (by simp [Value.oneCell']) ?_)
        exact ret_cell_tmp (k := 6) (j := 7) Tryd.f42 (by kernel_rfl) (Qn z5A) Tryd.underlying32 (info_as _ _ _ _ _) (by rfl) (by rfl) rfl ⟨rfl, bn _⟩
      · have hc' : ¬ (1 ≤ n ∧ n ≤ 65535) := fun q => hc ⟨rfl, q⟩
        have h2 : 65535 < n := by omega
        have e1 : decide (n < 1) = false := by simpa using h1
        have e2 : decide (65535 < n) = true := by simpa using h2
        go_enter Tryd.func42, Tryd.ntmps42
        go_wp2_with (refine wpList_store_ft rfl 32 _ _ rfl W0.heap.size z5A z5A (by rfl) (by rfl) Q1 (info_as _ _ _ _ _) rfl (by simp [Value.oneCell']) ?_)
        exact ret_cell_tmp (k := 6) (j := 7) Tryd.f42 (by kernel_rfl) (Qn z5A) Tryd.underlying32 (info_as _ _ _ _ _) (by rfl) (by rfl) rfl ⟨rfl, bn _⟩
set_option maxHeartbeats 1000000 in
theorem behind_ft (h s : ByteArray) (w : World) (hh : ∀ c ∈ h.data.toList, c.toNat < 128) (hhs : h.size ≤ 100) (hs : s.size ≤ 9223372036854775807) :
    Calls Tryd.prog 29 #[.string h, .string s] w fun e w' => e = .returned (.tuple #[.string ⟨((behF h.data.toList s.data.toList).getD []).toArray⟩, .bool (behF h.data.toList s.data.toList).isSome]) ∧ Below w.heap.size w w' := by
  have eh : h.data.toList.length = h.size := Array.length_toList
  have es : s.data.toList.length = s.size := Array.length_toList
  obtain ⟨R, hR⟩ : ∃ R, behF h.data.toList s.data.toList = R := ⟨_, rfl⟩
  rw [hR]
  have HR : Hid (behF h.data.toList s.data.toList = R) := hR
  clear hR
  by_cases hl : s.size < h.size
  · have e : R = none := by
      rw [← HR.out, behF, if_neg]
      intro q
      have := congrArg List.length q
      simp at this
      omega
    subst e
    go_enter Tryd.func29, Tryd.ntmps29
    go_wp2
    go_ret2
    exact ⟨rfl, Below.refl _ _⟩
  obtain ⟨x, hx⟩ : ∃ x, s.extract 0 h.size = x := ⟨_, rfl⟩
  have hxd : x.data.toList = s.data.toList.take h.size := by rw [← hx, Lib.extract_data]; simp
  have hxs : x.size = h.size := by
    have : x.data.toList.length = x.size := Array.length_toList
    rw [← this, hxd]; simp; omega
  obtain ⟨y, hy⟩ : ∃ y, s.extract h.size s.size = y := ⟨_, rfl⟩
  have hyd : y.data.toList = s.data.toList.drop h.size := by rw [← hy, Lib.extract_data]; rw [List.take_of_length_le (by simp)]
  have hsl : ∀ W, (Instr.slice 9 (.string s) none (some (.int .i64 (h.size : Int))) none).run Tryd.prog W = .ok (.string x) W := fun W => by
    rw [run_slice_string_to_if (P := Tryd.prog) W 9 s .i64 h.size (by kernel_rfl), if_pos ⟨by omega, by omega⟩]
    simp only [Int.toNat_natCast, hx]
  have hsf : ∀ W, (Instr.slice 9 (.string s) (some (.int .i64 (h.size : Int))) none none).run Tryd.prog W = .ok (.string y) W := fun W => by
    rw [run_slice_string_from_if (P := Tryd.prog) W 9 s .i64 h.size (by kernel_rfl), if_pos ⟨by omega, by omega⟩]
    simp only [Int.toNat_natCast, hy]
  have HR2 : Hid (R = if x.data.toList.map upB = h.data.toList then some y.data.toList else none) := by
    show R = _
    rw [← HR.out, behF, eh, hxd, hyd]
  clear HR hxd hyd hx hy es
  have hl' : ¬ (s.size : Int) < (h.size : Int) := by omega
  have ex : x.data.toList.length = x.size := Array.length_toList
  go_enter Tryd.func29, Tryd.ntmps29
  go_wp2
  clear hsl
  go_loopw [6] (fun _ w' => ∃ (p : Nat) (W0 : World), w' = W0.iter x p ∧ W0.heap.size = w.heap.size ∧ Below w.heap.size w W0 ∧ p ≤ x.size ∧ Hid ((x.data.toList.take p).map upB = h.data.toList.take p)) (fun _ w' => x.size - w'.iterPos w.heap.size)
  case atStart => exact ⟨0, w, rfl, rfl, Below.refl _ _, Nat.zero_le _, rfl⟩
  case round =>
    obtain ⟨p, W0, rfl, hz, hb, hp, hr⟩ := hrel
    have bel : ∀ p, Below w.heap.size w (W0.iter x p) := fun p => hb.alloc (by omega) _
    by_cases hlt : p < x.size
    · have hlh : p < h.size := by omega
      obtain ⟨c, hc⟩ : ∃ c, (x[p]'hlt).toNat = c := ⟨_, rfl⟩
      obtain ⟨k, hk⟩ : ∃ k, (h[p]'hlh).toNat = k := ⟨_, rfl⟩
      have hk8 : k < 128 := by rw [← hk]; exact hh _ (by have := List.getElem_mem (l := h.data.toList) (n := p) (by omega); exact this)
      have hix : ∀ W, (Instr.index 9 (.string h) (.int .i64 (p : Int))).run Tryd.prog W = .ok (.int .u8 (k : Int)) W := fun W => by
        rw [run_index_string (P := Tryd.prog) W 9 h .i64 (p : Int) (by kernel_rfl), dif_pos (by omega), ← hk]
        rfl
      have hex : x.data.toList[p]? = some (x[p]'hlt) := by rw [List.getElem?_eq_getElem (by omega)]; rfl
      have heh : h.data.toList[p]? = some (h[p]'hlh) := by rw [List.getElem?_eq_getElem (by omega)]; rfl
      have stop : upB (x[p]'hlt) ≠ h[p]'hlh → R = none := fun hne => by
        rw [HR2.out, if_neg]
        intro q
        apply hne
        have := congrArg (·[p]?) q
        simp only [List.getElem?_map, hex, heh] at this
        simpa using this
      have goes : upB (x[p]'hlt) = h[p]'hlh → Hid ((x.data.toList.take (p + 1)).map upB = h.data.toList.take (p + 1)) := fun he => by
        show _ = _
        rw [List.take_add_one, List.take_add_one, hex, heh, List.map_append, hr.out]
        simp [he]
      clear hr HR2 hex heh
      by_cases ha : c < 128
      · have hnx : ∀ ty, (Instr.next (.pointer (some ⟨w.heap.size, 0, none⟩)) true ty).run Tryd.prog (W0.iter x p) = .ok (.tuple #[.bool true, .int .i64 p, .int .i32 c]) (W0.iter x (p + 1)) := fun ty => by rw [← hc, ← hz]; exact run_next_ascii W0 x p ty hlt (by omega)
        have KU : Hid (∀ W, Calls Tryd.prog 38 #[.int .i32 c] W fun e w' => e = .returned (.int .i32 ((if 97 ≤ c ∧ c ≤ 122 then c - 32 else c : Nat) : Int)) ∧ w' = W) := fun W => upper_ft c W (by omega)
        have hu : (upB (x[p]'hlt)).toNat = (if 97 ≤ c ∧ c ≤ 122 then c - 32 else c) := by
          unfold upB
          rw [hc]
          split
          · next q => rw [UInt8.toNat_sub_of_le _ _ (by rw [UInt8.le_iff_toNat_le, hc]; show 32 ≤ c; omega), hc]; rfl
          · exact hc
        generalize (if 97 ≤ c ∧ c ≤ 122 then c - 32 else c) = u at *
        by_cases hq : u = k
        · have g := goes (UInt8.toNat_inj.1 (by rw [hu, hq, hk]))
          subst hq
          clear goes stop hc hk hu
          go_wp2
          go_quiet (first | (go_at_call 38; refine Calls.quiet_of_same (KU.out _)))
          all_goals go_wp2
          all_goals exact ⟨⟨p + 1, W0.drewN _, rfl, hz, below_drewN hb _, by omega, g⟩, by show x.size - World.iterPos (W0.iter x (p + 1)) w.heap.size < x.size - World.iterPos (W0.iter x p) w.heap.size; rw [← hz, World.iterPos_iter, World.iterPos_iter]; omega⟩
        · obtain rfl := stop (fun e => hq (by rw [← hu, e, hk]))
          have hne : ¬ ((u : Int) = (k : Int)) := by omega
          clear goes stop hc hk hu
          go_wp2
          go_quiet (first | (go_at_call 38; refine Calls.quiet_of_same (KU.out _)))
          all_goals go_wp2
          all_goals go_ret2
          all_goals exact ⟨rfl, below_drewN (bel _) _⟩
      · have hd := decode_high x p hlt (by omega)
        have hle := decode_le x p
        have hnx : ∀ ty, (Instr.next (.pointer (some ⟨w.heap.size, 0, none⟩)) true ty).run Tryd.prog (W0.iter x p) = .ok (.tuple #[.bool true, .int .i64 p, .int .i32 (Utf8.decode x p).1]) (W0.iter x (p + (Utf8.decode x p).2)) := fun ty => by rw [← hz]; exact run_next_any W0 x p ty hlt
        obtain rfl := stop (fun e => by
          have : (upB (x[p]'hlt)).toNat = c := by unfold upB; rw [hc, if_neg (by omega)]; exact hc
          rw [e, hk] at this
          omega)
        generalize Utf8.decode x p = rr at *
        obtain ⟨r, q⟩ := rr
        simp only at hnx hd hle
        have KU : Hid (∀ W, Calls Tryd.prog 38 #[.int .i32 r] W fun e w' => e = .returned (.int .i32 (r : Int)) ∧ w' = W) := fun W => by have := upper_ft r W hle; rwa [if_neg (by omega)] at this
        have hne : ¬ ((r : Int) = (k : Int)) := by omega
        clear goes stop hc hk
        go_wp2
        go_quiet (first | (go_at_call 38; refine Calls.quiet_of_same (KU.out _)))
        all_goals go_wp2
        all_goals go_ret2
        all_goals exact ⟨rfl, below_drewN (bel _) _⟩
    · have hnx : ∀ ty, (Instr.next (.pointer (some ⟨w.heap.size, 0, none⟩)) true ty).run Tryd.prog (W0.iter x p) = .ok (.tuple #[.bool false]) (W0.iter x p) := fun ty => by rw [← hz]; exact run_next_end W0 x p ty hlt
      have e1 : R = some y.data.toList := by
        have q := hr.out
        rw [List.take_of_length_le (by omega), List.take_of_length_le (by omega)] at q
        rw [HR2.out, if_pos q]
      subst e1
      clear hr HR2
      go_wp2
      go_ret2
      exact ⟨rfl, bel _⟩
end Go.Proofs.YtnadfacbfcdkgaaDoor
