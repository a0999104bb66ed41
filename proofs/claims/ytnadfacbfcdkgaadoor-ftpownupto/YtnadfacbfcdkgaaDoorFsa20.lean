/- Texts joined: AtD -/
import Derived.Test.YtnadfacbfcdkgaaDoorFsa15
import Derived.Test.YtnadfacbfcdkgaaDoorFsa19
namespace Go.Proofs.YtnadfacbfcdkgaaDoor
open Go.RowKit
set_option linter.unusedVariables false
set_option linter.unusedSimpArgs false
/-- What Split answers: texts of its own. -/
structure GotS (w : World) (T : List (List UInt8)) (w' : World) (a : Option Addr) (k : Nat) (xs : List ByteArray) : Prop where
  owns : OwnsS w' w.heap.size (.slice a xs.length k) xs
  parts : xs.map (·.data.toList) = T
  below : Below w.heap.size w w'
set_option maxRecDepth 100000 in
set_option maxHeartbeats 2000000 in
theorem rsplit_any (s : ByteArray) (c : UInt8) (cn : Nat) (hcn : c.toNat = cn) (w : World) (hs : s.size < 4294967281) :
    Calls Tryd.prog 34 #[.string s, .int .u8 cn] w fun e w' => ∃ a k xs, e = .returned (.slice a xs.length k) ∧ GotS w (spl c s.data.toList) w' a k xs := by
  obtain ⟨T, hT⟩ : ∃ T, spl c s.data.toList = T := ⟨_, rfl⟩
  rw [hT]
  have HT : Hid (([] : List ByteArray).map (·.data.toList) ++ hds ((s.data.toList.drop 0).take (0 - 0)) (spl c (s.data.toList.drop 0)) = T) := by
    show _ = _
    simp only [List.map_nil, List.nil_append, List.drop_zero, Nat.sub_self, List.take_zero]
    rw [hds_nil (spl_ne c _)]
    exact hT
  clear hT
  go_enter Tryd.func34, Tryd.ntmps34
  go_wp2
  go_loopw [5, 6, 7] (fun l f i w' => ∃ (p q : Nat) (xs : List ByteArray) (a : Option Addr) (k : Nat), p ≤ s.size + 1 ∧ q ≤ p ∧ l = .slice a xs.length k ∧ f = .int .i64 q ∧ i = .int .i64 p ∧ xs.length ≤ p ∧ OwnsS w' w.heap.size (.slice a xs.length k) xs ∧ Below w.heap.size w w' ∧
      Hid (if p ≤ s.size then xs.map (·.data.toList) ++ hds ((s.data.toList.drop q).take (p - q)) (spl c (s.data.toList.drop p)) = T else xs.map (·.data.toList) = T)) (fun _ _ i _ => s.size + 1 - (intOf i).toNat)
  case atStart => exact ⟨0, 0, [], none, 0, Nat.zero_le _, Nat.le_refl _, rfl, rfl, rfl, Nat.zero_le _, OwnsS.nil _ _, Below.refl _ _, by show (if _ then _ else _); rw [if_pos (Nat.zero_le _)]; exact HT.out⟩
  case round =>
    obtain ⟨p, q, xs, a, k, hp, hqp, rfl, rfl, rfl, hx, own, bel, hr⟩ := hrel
    clear HT
    have zr := bel.size
    by_cases hlt : p ≤ s.size
    · have hr1 := hr.out
      rw [if_pos hlt] at hr1
      have ile : (p : Int) ≤ (s.size : Int) := by omega
      obtain ⟨y, hy⟩ : ∃ y, s.extract q p = y := ⟨_, rfl⟩
      have hyd : y.data.toList = (s.data.toList.drop q).take (p - q) := by rw [← hy]; exact Lib.extract_data s q p
      have hsl : ∀ W, (Instr.slice 9 (.string s) (some (.int .i64 (q : Int))) (some (.int .i64 (p : Int))) none).run Tryd.prog W = .ok (.string y) W := fun W => by
        rw [run_slice_string (P := Tryd.prog) W 9 s .i64 .i64 q p (by kernel_rfl) (by omega) (by omega) (by omega)]
        simp only [Int.toNat_natCast, hy]
      rw [← hyd] at hr1
      by_cases hend : p = s.size
      · have hq : Hid (if p + 1 ≤ s.size then (xs ++ [y]).map (·.data.toList) ++ hds ((s.data.toList.drop (p + 1)).take (p + 1 - (p + 1))) (spl c (s.data.toList.drop (p + 1))) = T else (xs ++ [y]).map (·.data.toList) = T) := by
          show (if _ then _ else _)
          rw [if_neg (by omega), ← hr1, drop_end s p (by omega)]
          simp [spl, hds]
        have ieq : ((p : Int) == (s.size : Int)) = true := by simp; omega
        have hxl : (xs ++ [y]).length ≤ p + 1 := by simp; omega
        have hpE : Hid (p = s.size) := hend
        obtain ⟨xs', hxs⟩ : ∃ xs', xs ++ [y] = xs' := ⟨_, rfl⟩
        rw [hxs] at hq hxl
        have HXS : Hid (xs ++ [y] = xs') := hxs
        clear hr hr1 hy hyd hend hxs
        go_wp2_with (at_builtin; refine wpList_appS _ rfl _ _ rfl w.heap.size _ xs rfl (own.alloc _) _ _ y rfl ?appC xs' HXS.out (by omega) (by simp; omega) ?_)
        case appC => first | (simp [go_sem]; done) | simp
        intro a' c' w2 o2 b2
        have b3 : Below w.heap.size w w2 := (bel.alloc zr _).trans b2
        go_wp2
        exact ⟨⟨p + 1, p + 1, xs', a', c', by omega, by omega, rfl, int_eq (by omega), int_eq (by omega), by omega, o2, b3, hq⟩, by simp [intOf]; omega⟩
      · have hlt' : p < s.size := by omega
        have ine : ((p : Int) == (s.size : Int)) = false := by simp; omega
        rw [drop_cons s p hlt'] at hr1
        obtain ⟨z, hz⟩ : ∃ z, (s[p]'hlt') = z := ⟨_, rfl⟩
        have hix : (Instr.index 9 (.string s) (.int .i64 (p : Int))).run Tryd.prog wr = .ok (.int .u8 (z.toNat : Int)) wr := by
          rw [run_index_string (P := Tryd.prog) wr 9 s .i64 p (by kernel_rfl), dif_pos (by omega)]
          simp only [Int.toNat_natCast, hz]
        rw [hz] at hr1
        unfold spl at hr1
        by_cases hc : z = c
        · rw [if_pos hc] at hr1
          have hq : Hid (if p + 1 ≤ s.size then (xs ++ [y]).map (·.data.toList) ++ hds ((s.data.toList.drop (p + 1)).take (p + 1 - (p + 1))) (spl c (s.data.toList.drop (p + 1))) = T else (xs ++ [y]).map (·.data.toList) = T) := by
            show (if _ then _ else _)
            rw [if_pos (by omega), ← hr1, Nat.sub_self, List.take_zero, hds_nil (spl_ne c _)]
            simp [hds]
          have ieq : ((z.toNat : Int) == (cn : Int)) = true := by rw [hc, hcn]; simp
          have hxl : (xs ++ [y]).length ≤ p + 1 := by simp; omega
          obtain ⟨zn, hzn⟩ : ∃ zn, z.toNat = zn := ⟨_, rfl⟩
          rw [hzn] at ieq hix
          obtain ⟨xs', hxs⟩ : ∃ xs', xs ++ [y] = xs' := ⟨_, rfl⟩
          rw [hxs] at hq hxl
          have HXS : Hid (xs ++ [y] = xs') := hxs
          clear hr hr1 hy hyd hend hz hc hzn hxs
          go_wp2_with (at_builtin; refine wpList_appS _ rfl _ _ rfl w.heap.size _ xs rfl (own.alloc _) _ _ y rfl ?appC xs' HXS.out (by omega) (by simp; omega) ?_)
          case appC => first | (simp [go_sem]; done) | simp
          intro a' c' w2 o2 b2
          have b3 : Below w.heap.size w w2 := (bel.alloc zr _).trans b2
          go_wp2
          exact ⟨⟨p + 1, p + 1, xs', a', c', by omega, by omega, rfl, int_eq (by omega), int_eq (by omega), by omega, o2, b3, hq⟩, by simp [intOf]; omega⟩
        · rw [if_neg hc, hds_hd1] at hr1
          have hq : Hid (if p + 1 ≤ s.size then xs.map (·.data.toList) ++ hds ((s.data.toList.drop q).take (p + 1 - q)) (spl c (s.data.toList.drop (p + 1))) = T else xs.map (·.data.toList) = T) := by
            show (if _ then _ else _)
            rw [if_pos (by omega), ← hr1, hyd]
            have : (s.data.toList.drop q).take (p + 1 - q) = (s.data.toList.drop q).take (p - q) ++ [z] := by
              rw [show p + 1 - q = (p - q) + 1 by omega, List.take_add_one, List.getElem?_drop, show q + (p - q) = p by omega]
              have : s.data.toList[p]? = some z := by
                rw [← hz]
                have h1 : p < s.data.toList.length := by simpa using hlt'
                rw [List.getElem?_eq_getElem h1]
                rfl
              rw [this]
              rfl
            rw [this]
          have ieq : ((z.toNat : Int) == (cn : Int)) = false := by
            simp only [beq_eq_false_iff_ne]
            intro e
            exact hc (UInt8.toNat_inj.1 (by omega))
          obtain ⟨zn, hzn⟩ : ∃ zn, z.toNat = zn := ⟨_, rfl⟩
          rw [hzn] at ieq hix
          clear hr hr1 hy hyd hend hz hc hzn hsl
          go_wp2
          exact ⟨⟨p + 1, q, xs, a, k, by omega, by omega, rfl, rfl, int_eq (by omega), by omega, own, bel, hq⟩, by simp [intOf]; omega⟩
    · have hr1 := hr.out
      rw [if_neg hlt] at hr1
      have ile : ¬ (p : Int) ≤ (s.size : Int) := by omega
      have HR : Hid _ := hr1
      clear hr hr1
      go_wp2
      go_ret
      exact ⟨a, k, xs, rfl, own, HR.out, bel⟩
end Go.Proofs.YtnadfacbfcdkgaaDoor
