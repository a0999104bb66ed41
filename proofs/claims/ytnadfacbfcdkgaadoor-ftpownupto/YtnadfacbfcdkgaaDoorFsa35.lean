/- Texts joined: FtM -/
import Derived.Test.YtnadfacbfcdkgaaDoorFsa28
namespace Go.Proofs.YtnadfacbfcdkgaaDoor
open Go.RowKit
set_option linter.unusedVariables false
set_option linter.unusedSimpArgs false
def subA (b off c q : Nat) : Option Addr := if c = q then some ⟨b, off, none⟩ else some ⟨b, off + q, none⟩
theorem run_sub (b off n c q p : Nat) (hq : q ≤ p) (hp : p ≤ c) (w : World) : (Instr.sliceAt 22 (.slice (some ⟨b, off, none⟩) n c) (some (.int .i64 (q : Int))) (some (.int .i64 (p : Int))) none).run Tryd.prog w = .ok (.slice (subA b off c q) (p - q) (c - q)) w := by
  have hu : Tryd.prog.underlying 22 = some (.slice (Tryd.prog.elem 22)) := by kernel_rfl
  have hs : (sizeOf (Tryd.prog.elem 22)).run Tryd.prog w = .ok 1 w := by kernel_rfl
  rw [run_sliceAt_slice _ _ _ _ _ _ hu, run_slice_lh _ _ _ _ _ hu .i64 .i64 (q : Int) (p : Int) (by omega) (by omega) (by omega), hs]
  show Result.ok _ _ = _
  unfold sliced subA
  simp only [Int.toNat_natCast]
  by_cases h : c = q
  · rw [if_pos h, if_pos h]
  · rw [if_neg h, if_neg h]
    show Result.ok (Value.slice (some ((⟨b, off, none⟩ : Addr).add (q * 1))) (p - q) (c - q)) w = _
    rw [Go.WideShapes.add_plain, Nat.mul_one]
theorem row_sub {w : World} {b off c : Nat} {l : List Int} (h : Row w (some ⟨b, off, none⟩) l) (hc : l.length ≤ c) (q p : Nat) (hp : p ≤ l.length) : Row w (subA b off c q) ((l.take p).drop q) := by
  have h2 := (h.take p).drop c q (by simp; omega)
  unfold subA
  by_cases e : c = q
  · rw [if_pos e] at h2 ⊢; exact h2
  · rw [if_neg e] at h2 ⊢
    have : (some ⟨b, off, none⟩ : Option Addr).map (fun x => x.add q) = some ⟨b, off + q, none⟩ := by
      simp only [Option.map_some, Go.WideShapes.add_plain]
    rw [this] at h2
    exact h2
theorem str_at {l : List Int} (hb : M.Bytes l) (k : Nat) (hk : k < l.length) : ∃ x : UInt8, (strOfNums l).data.toList[k]? = some x ∧ ((x.toNat : Nat) : Int) = l.getD k 0 := by
  have h := hb (l[k]) (List.getElem_mem hk)
  refine ⟨UInt8.ofNat (l[k]).toNat, ?_, ?_⟩
  · rw [strOfNums_data, List.getElem?_map, List.getElem?_eq_getElem hk]; rfl
  · rw [getD_at l k hk, UInt8.toNat_ofNat_of_lt' (by show _ < 256; omega)]
    omega
theorem str_cut (l : List Int) (q p : Nat) : (strOfNums ((l.take p).drop q)).data.toList = ((strOfNums l).data.toList.take p).drop q := by
  rw [strOfNums_data, strOfNums_data, List.map_drop, List.map_take]
set_option maxRecDepth 100000 in
set_option maxHeartbeats 4000000 in
theorem rlines_ft (a : Option Addr) (c : Nat) (l : List Int) (w : World) (hr : Row w a l) (hlc : l.length ≤ c) (hl : l.length ≤ 4294967280) :
    Calls Tryd.prog 12 #[.slice a l.length c] w fun e w' => ∃ a' k xs, e = .returned (.slice a' xs.length k) ∧ GotL w w.heap.size (lnF (strOfNums l).data.toList) w' a' k xs := by
  have hsz := strOfNums_size l
  have es : (strOfNums l).data.toList.length = l.length := by rw [strOfNums_data]; simp
  obtain ⟨T, hT⟩ : ∃ T, lnF (strOfNums l).data.toList = T := ⟨_, rfl⟩
  rw [hT]
  have HT : Hid (([] : List ByteArray).map (·.data.toList) ++ lnP ((strOfNums l).data.toList.drop 0) (((strOfNums l).data.toList.take 0).drop 0) false = T) := hT
  clear hT hsz
  go_enter Tryd.func12, Tryd.ntmps12
  go_wp2
  go_loopw [3, 4, 5] (fun v f i w' => ∃ (p q : Nat) (xs : List ByteArray) (av : Option Addr) (k : Nat), p ≤ l.length ∧ q ≤ p ∧ v = .slice av xs.length k ∧ f = .int .i64 q ∧ i = .int .i64 p ∧ xs.length ≤ p ∧ OwnsS w' w.heap.size (.slice av xs.length k) xs ∧ Below w.heap.size w w' ∧
      Hid (xs.map (·.data.toList) ++ lnP ((strOfNums l).data.toList.drop p) (((strOfNums l).data.toList.take p).drop q) false = T)) (fun _ _ i _ => l.length - (intOf i).toNat)
  case atStart => exact ⟨0, 0, [], none, 0, Nat.zero_le _, Nat.le_refl _, rfl, rfl, rfl, Nat.zero_le _, OwnsS.nil _ _, Below.refl _ _, HT⟩
  case round =>
    obtain ⟨p, q, xs, av, k, hp, hqp, rfl, rfl, rfl, hxp, own, bel, hq⟩ := hrel
    clear HT
    have zr := bel.size
    by_cases hlt : p + 1 < l.length
    · have hw : Row wr a l := hr.below bel
      obtain ⟨b, off, rfl, hcell⟩ := hw.cells (by omega)
      obtain ⟨x, hx, hxv⟩ := str_at hr.bytes p (by omega)
      obtain ⟨y, hy, hyv⟩ := str_at hr.bytes (p + 1) hlt
      have c0 := hcell p (by omega)
      have c1 := hcell (p + 1) hlt
      rw [← hxv] at c0
      rw [← hyv] at c1
      have hdp : (strOfNums l).data.toList.drop p = x :: y :: (strOfNums l).data.toList.drop (p + 2) := by
        have e1 := List.getElem?_eq_some_iff.1 hx
        have e2 := List.getElem?_eq_some_iff.1 hy
        rw [List.drop_eq_getElem_cons e1.1, e1.2, List.drop_eq_getElem_cons e2.1, e2.2]
      have hnext : ¬ (x = 13 ∧ y = 10) → lnP ((strOfNums l).data.toList.drop p) (((strOfNums l).data.toList.take p).drop q) false = lnP ((strOfNums l).data.toList.drop (p + 1)) (((strOfNums l).data.toList.take (p + 1)).drop q) false := fun hn => by
        have e2 := List.getElem?_eq_some_iff.1 hy
        have hd1 : (strOfNums l).data.toList.drop (p + 1) = y :: (strOfNums l).data.toList.drop (p + 2) := by rw [List.drop_eq_getElem_cons e2.1, e2.2]
        rw [hdp, lnP_next x _ _ (fun e => hn ⟨e.1, by simpa using e.2⟩), hd1, ← drop_take_add (k := 1) hqp, hdp]
        rfl
      have hend : x = 13 ∧ y = 10 → lnP ((strOfNums l).data.toList.drop p) (((strOfNums l).data.toList.take p).drop q) false = ((strOfNums l).data.toList.take p).drop q :: lnP ((strOfNums l).data.toList.drop (p + 2)) [] false := fun hn => by
        rw [hdp, hn.1, hn.2, lnP_end]
      obtain ⟨vx, hvx⟩ : ∃ v, x.toNat = v := ⟨_, rfl⟩
      obtain ⟨vy, hvy⟩ : ∃ v, y.toNat = v := ⟨_, rfl⟩
      rw [hvx] at c0
      rw [hvy] at c1
      have c1' : wr.cell? ⟨b, off + (p + 1), none⟩ = some (.int .u8 (vy : Int)) := c1
      have ht : ((p : Int) + 1 < (l.length : Int)) := by omega
      have ht0 : ((p : Int) < (l.length : Int)) := by omega
      clear hcell hxv hyv hdp
      by_cases h13 : vx = 13
      · by_cases h10 : vy = 10
        · subst h13 h10
          have hq2 := hend ⟨UInt8.toNat_inj.1 hvx, UInt8.toNat_inj.1 hvy⟩
          have hsl := run_sub b off l.length c q p hqp (by omega) wr
          have hcv := conv_row (row_sub hw hlc q p hp) (c - q)
          have hlen : ((l.take p).drop q).length = p - q := by simp; omega
          rw [hlen] at hcv
          obtain ⟨z, hz⟩ : ∃ z, strOfNums ((l.take p).drop q) = z := ⟨_, rfl⟩
          have hzd : z.data.toList = ((strOfNums l).data.toList.take p).drop q := by rw [← hz]; exact str_cut l q p
          rw [hz] at hcv
          obtain ⟨xs', hxs⟩ : ∃ xs', xs ++ [z] = xs' := ⟨_, rfl⟩
          have HXS : Hid (xs ++ [z] = xs') := hxs
          have HL : Hid (xs'.length = xs.length + 1) := by show _ = _; rw [← hxs]; simp
          have hq3 : Hid (xs'.map (·.data.toList) ++ lnP ((strOfNums l).data.toList.drop (p + 2)) (((strOfNums l).data.toList.take (p + 2)).drop (p + 2)) false = T) := by
            show _ = _
            rw [← hq.out, hq2, ← hxs, List.map_append, List.append_assoc, show ((strOfNums l).data.toList.take (p + 2)).drop (p + 2) = [] from List.drop_eq_nil_of_le (by rw [List.length_take]; omega), ← hzd]
            rfl
          clear hnext hend hq hq2 hxs hz hzd hvx hvy hx hy hw hr
          go_wp2_with (at_builtin; refine wpList_appS _ rfl _ _ rfl w.heap.size _ xs rfl (own.alloc _) _ _ z rfl ?appC xs' HXS.out (by omega) (by simp; omega) ?_)
          try (case appC => first | (simp [go_sem]; done) | simp)
          intro a' c' w2 o2 b2
          have bel2 : Below w.heap.size w w2 := (bel.alloc (by omega) _).trans b2
          clear own bel b2 hsl hcv
          go_wp2
          exact ⟨⟨p + 2, p + 2, xs', a', c', by omega, Nat.le_refl _, rfl, int_eq (by omega), int_eq (by omega), by have := HL.out; omega, o2, bel2, hq3⟩, by simp [intOf]; omega⟩
        · have hq2 : Hid (xs.map (·.data.toList) ++ lnP ((strOfNums l).data.toList.drop (p + 1)) (((strOfNums l).data.toList.take (p + 1)).drop q) false = T) := by show _ = _; rw [← hnext (fun e => h10 (by rw [← hvy, e.2]; rfl))]; exact hq.out
          subst h13
          clear hnext hend hq hvx hvy hx hy hw
          go_wp2
          exact ⟨⟨p + 1, q, xs, av, k, by omega, by omega, rfl, rfl, int_eq (by omega), by omega, own, bel, hq2⟩, by simp [intOf]; omega⟩
      · have hq2 : Hid (xs.map (·.data.toList) ++ lnP ((strOfNums l).data.toList.drop (p + 1)) (((strOfNums l).data.toList.take (p + 1)).drop q) false = T) := by show _ = _; rw [← hnext (fun e => h13 (by rw [← hvx, e.1]; rfl))]; exact hq.out
        clear hnext hend hq hvx hvy hx hy hw
        go_wp2
        exact ⟨⟨p + 1, q, xs, av, k, by omega, by omega, rfl, rfl, int_eq (by omega), by omega, own, bel, hq2⟩, by simp [intOf]; omega⟩
    · have ht : ¬ ((p : Int) + 1 < (l.length : Int)) := by omega
      have e1 : xs.map (·.data.toList) = T := by
        have h := hq.out
        have h0 : lnP ((strOfNums l).data.toList.drop p) (((strOfNums l).data.toList.take p).drop q) false = [] := by
          cases hd : (strOfNums l).data.toList.drop p with
          | nil => rfl
          | cons x t =>
            have hlen := congrArg List.length hd
            simp only [List.length_drop, List.length_cons, es] at hlen
            have : t = [] := List.eq_nil_of_length_eq_zero (by omega)
            rw [this, lnP_last]
        rwa [h0, List.append_nil] at h
      clear hq
      go_wp2
      go_ret
      exact ⟨_, _, xs, rfl, ⟨own, e1, bel⟩⟩
end Go.Proofs.YtnadfacbfcdkgaaDoor
