/- Texts joined: FtF -/
import Derived.Test.YtnadfacbfcdkgaaDoorFsa18
import Derived.Test.YtnadfacbfcdkgaaDoorFsa20
import Derived.Lib.OthersKept
import Derived.Lib.DecodeN
import Derived.Deep.Onto
import Derived.WalkSmall
namespace Go.Proofs.YtnadfacbfcdkgaaDoor
open Go.RowKit
set_option linter.unusedVariables false
set_option linter.unusedSimpArgs false
/-- A rune of more than one byte has no byte below 128, and is there whole. -/
theorem decode_cont (s : ByteArray) (p : Nat) (h : p < s.size) (h8 : 128 ≤ (s[p]'h).toNat) : p + (Utf8.decode s p).2 ≤ s.size ∧ ∀ j, j < (Utf8.decode s p).2 → ∀ hj : p + j < s.size, 128 ≤ (s[p + j]'hj).toNat := by
  have hg : ∀ j (hj : p + j < s.size), s.get! (p + j) = s[p + j]'hj := fun j hj => get_at s (p + j) hj
  rw [Lib.decode_at]
  have c : ∀ n b0 b1 b2 b3 : Nat, 1 ≤ n → (Lib.decodeN n b0 b1 b2 b3).2 ≤ n ∧ (2 ≤ (Lib.decodeN n b0 b1 b2 b3).2 → b1 / 64 = 2) ∧ (3 ≤ (Lib.decodeN n b0 b1 b2 b3).2 → b2 / 64 = 2) ∧ (4 ≤ (Lib.decodeN n b0 b1 b2 b3).2 → b3 / 64 = 2) ∧ (Lib.decodeN n b0 b1 b2 b3).2 ≤ 4 := by
    intro n b0 b1 b2 b3 hn
    unfold Lib.decodeN
    repeat' split
    all_goals (simp only; omega)
  obtain ⟨c1, c2, c3, c4, c5⟩ := c (s.size - p) (s.get! p).toNat (s.get! (p + 1)).toNat (s.get! (p + 2)).toNat (s.get! (p + 3)).toNat (by omega)
  generalize (Lib.decodeN (s.size - p) (s.get! p).toNat (s.get! (p + 1)).toNat (s.get! (p + 2)).toNat (s.get! (p + 3)).toNat).2 = k at *
  refine ⟨by omega, fun j hj hjs => ?_⟩
  rcases j with _ | _ | _ | _ | j
  · exact h8
  · have := c2 (by omega); rw [hg 1 hjs] at this; show 128 ≤ (s[p + 1]'hjs).toNat; omega
  · have := c3 (by omega); rw [hg 2 hjs] at this; show 128 ≤ (s[p + 2]'hjs).toNat; omega
  · have := c4 (by omega); rw [hg 3 hjs] at this; show 128 ≤ (s[p + 3]'hjs).toNat; omega
  · omega
theorem lnP_skip : ∀ (u t acc : List UInt8) (ah : Bool), u ≠ [] → (∀ c ∈ u, 128 ≤ c.toNat) → lnP (u ++ t) acc ah = lnP t (acc ++ u) false
  | [], _, _, _, h, _ => absurd rfl h
  | x :: u, t, acc, ah, _, h => by
    have hx := h x (List.mem_cons_self ..)
    have h10 : ¬ x = 10 := fun e => by rw [e] at hx; revert hx; decide
    have h13 : ¬ x = 13 := fun e => by rw [e] at hx; revert hx; decide
    show lnP (x :: (u ++ t)) acc ah = _
    rw [lnP_eq, if_neg (fun e => h10 e.2), decide_eq_false h13]
    cases u with
    | nil => rfl
    | cons y v =>
      rw [lnP_skip (y :: v) t (acc ++ [x]) false (by simp) (fun c hc => h c (List.mem_cons_of_mem _ hc))]
      simp
theorem OwnsS.iterAt {w : World} {B : Nat} {v : Value} {xs : List ByteArray} {k : Nat} {s : ByteArray} {pos : Nat} (h : OwnsS w B v xs) (hk : w.heap[k]? = some (.stringIter s pos)) (pos' : Nat) : OwnsS (w.iterAt k s pos') B v xs := by
  refine ⟨h.1, ?_⟩
  rcases h.2 with h0 | ⟨g, cap, cur, hv, hb, hg, rest⟩
  · exact .inl h0
  · refine .inr ⟨g, cap, cur, hv, hb, ?_, rest⟩
    rw [Lib.iterAt_other _ _ _ _ _ (fun e => by subst e; rw [hk] at hg; cases hg)]
    exact hg
theorem drop_take_add {l : List UInt8} {q p k : Nat} (hq : q ≤ p) : ((l.take p).drop q) ++ ((l.drop p).take k) = (l.take (p + k)).drop q := by
  by_cases hp : p ≤ l.length
  · have e : l.take (p + k) = l.take p ++ (l.drop p).take k := List.take_add ..
    rw [e, List.drop_append_of_le_length (by simp; omega)]
  · rw [List.take_of_length_le (by omega : l.length ≤ p), List.take_of_length_le (by omega : l.length ≤ p + k), List.drop_eq_nil_of_le (by omega : l.length ≤ p)]
    simp
theorem cut_last_ft {l : List UInt8} {b p : Nat} (hb : b < p) (hp : p ≤ l.length) : ((l.take p).drop b).dropLast = (l.take (p - 1)).drop b := by
  rw [List.dropLast_eq_take, List.drop_take, List.drop_take, List.take_take, List.length_take, List.length_drop]
  congr 1
  omega
/-- What the lines answered are: texts of their own. -/
structure GotL (w : World) (B : Nat) (T : List (List UInt8)) (w' : World) (a : Option Addr) (k : Nat) (xs : List ByteArray) : Prop where
  owns : OwnsS w' B (.slice a xs.length k) xs
  parts : xs.map (·.data.toList) = T
  below : Below w.heap.size w w'
set_option maxRecDepth 100000 in
set_option maxHeartbeats 4000000 in
theorem firstLines_ft (s : ByteArray) (most : Nat) (w : World) (hs : s.size ≤ 4294967280) (hm : most ≤ 4294967280) :
    Calls Tryd.prog 19 #[.string s, .int .i64 most] w fun e w' => ∃ a k xs, e = .returned (.slice a xs.length k) ∧ GotL w w.heap.size ((lnF s.data.toList).take most) w' a k xs := by
  have es : s.data.toList.length = s.size := Array.length_toList
  obtain ⟨T, hT⟩ : ∃ T, (lnF s.data.toList).take most = T := ⟨_, rfl⟩
  rw [hT]
  have HT : Hid (([] : List ByteArray).map (·.data.toList) ++ (lnP (s.data.toList.drop 0) ((s.data.toList.take 0).drop 0) (decide ((0 : Nat) = 13))).take (most - ([] : List ByteArray).length) = T) := hT
  clear hT
  obtain ⟨W0, hW0⟩ : ∃ W, w.iter s 0 = W := ⟨_, rfl⟩
  have hz0 : W0.heap.size = w.heap.size + 1 := by rw [← hW0]; simp [World.iter]
  have it0 : W0.heap[w.heap.size]? = some (.stringIter s 0) := by rw [← hW0]; exact World.iter_heap w s 0
  have bb0 : Below w.heap.size w W0 := by rw [← hW0]; exact (Below.refl _ _).alloc (Nat.le_refl _) _
  go_enter Tryd.func19, Tryd.ntmps19
  go_wp2
  try rw [hW0]
  clear hW0
  go_loopw [5, 6, 7] (fun v q r w' => ∃ (p b : Nat) (xs : List ByteArray) (a : Option Addr) (k : Nat) (ru : Nat), p ≤ s.size ∧ b ≤ p ∧ v = .slice a xs.length k ∧ q = .int .i64 b ∧ r = .int .i32 ru ∧ (ru = 13 → b < p) ∧ xs.length ≤ most ∧ xs.length ≤ p ∧ w'.heap[w.heap.size]? = some (.stringIter s p) ∧ OwnsS w' (w.heap.size + 1) (.slice a xs.length k) xs ∧ Below w.heap.size w w' ∧
      Hid (xs.map (·.data.toList) ++ (lnP (s.data.toList.drop p) ((s.data.toList.take p).drop b) (decide (ru = 13))).take (most - xs.length) = T)) (fun _ _ _ w' => s.size - w'.iterPos w.heap.size)
  case atStart => exact ⟨0, 0, [], none, 0, 0, Nat.zero_le _, Nat.le_refl _, rfl, rfl, rfl, (fun h => by cases h), Nat.zero_le _, Nat.zero_le _, it0, OwnsS.nil _ _, bb0, HT⟩
  case round =>
    obtain ⟨p, b, xs, a, k, ru, hp, hbp, rfl, rfl, rfl, h13, hxm, hxp, hit, own, bel, hr⟩ := hrel
    clear HT it0 bb0
    have zr := bel.size
    have hgl : w.heap.size < wr.heap.size := (Array.getElem?_eq_some_iff.1 hit).1
    have pos0 : wr.iterPos w.heap.size = p := iterPos_of hit
    by_cases hlt : p < s.size
    · obtain ⟨x, hx⟩ : ∃ x, s[p]'hlt = x := ⟨_, rfl⟩
      have hdr := drop_cons s p hlt
      rw [hx] at hdr
      obtain ⟨rr, wd, hdec⟩ : ∃ rr wd, Utf8.decode s p = (rr, wd) := ⟨_, _, rfl⟩
      have hw1 : 1 ≤ wd ∧ p + wd ≤ s.size ∧ rr ≤ 2147483647 ∧ (rr = 10 → x = 10 ∧ wd = 1) ∧ (decide (ru = 13) = true → x = 10 → rr = 10) ∧ (¬ (ru = 13 ∧ rr = 10) → lnP (s.data.toList.drop p) ((s.data.toList.take p).drop b) (decide (ru = 13)) = lnP (s.data.toList.drop (p + wd)) ((s.data.toList.take (p + wd)).drop b) (decide (rr = 13))) := by
        have hle := decode_le s p
        rw [hdec] at hle
        by_cases ha : x.toNat < 128
        · have e := decode_ascii s p hlt (by rw [hx]; exact ha)
          rw [hdec, hx] at e
          simp only [Prod.mk.injEq] at e
          obtain ⟨rfl, rfl⟩ := e
          refine ⟨Nat.le_refl _, by omega, hle, fun e => ⟨UInt8.toNat_inj.1 e, rfl⟩, fun _ e => by rw [e]; rfl, fun hn => ?_⟩
          rw [hdr, lnP_eq, if_neg, ← drop_take_add (k := 1) hbp, hdr]
          · congr 1
            have : (x = 13) = (x.toNat = 13) := propext ⟨fun e => by rw [e]; rfl, fun e => UInt8.toNat_inj.1 e⟩
            simp only [this]
          · rintro ⟨e1, e2⟩
            exact hn ⟨of_decide_eq_true e1, by rw [e2]; rfl⟩
        · obtain ⟨d1, d2⟩ := decode_high s p hlt (by rw [hx]; omega)
          obtain ⟨d3, d4⟩ := decode_cont s p hlt (by rw [hx]; omega)
          rw [hdec] at d1 d2 d3 d4
          simp only at d1 d2 d3 d4 hle
          refine ⟨d2, d3, hle, fun e => by omega, fun _ e => by rw [e] at ha; exact absurd (by decide) ha, fun _ => ?_⟩
          have hsp : s.data.toList.drop p = (s.data.toList.drop p).take wd ++ s.data.toList.drop (p + wd) := by rw [← List.drop_drop, List.take_append_drop]
          conv => lhs; rw [hsp]
          rw [lnP_skip, drop_take_add hbp, decide_eq_false (by omega)]
          · intro e
            have := congrArg List.length e
            simp at this; omega
          · intro c hc
            obtain ⟨j, hj, rfl⟩ := List.mem_iff_getElem.1 hc
            simp at hj
            rw [List.getElem_take, List.getElem_drop]
            exact d4 j (by omega) (by omega)
      have hnx : ∀ ty, (Instr.next (.pointer (some ⟨w.heap.size, 0, none⟩)) true ty).run Tryd.prog wr = .ok (.tuple #[.bool true, .int .i64 p, .int .i32 rr]) (wr.iterAt w.heap.size s (p + wd)) := fun ty => by
        have := Lib.run_next_any_at (P := Tryd.prog) wr w.heap.size s p ty hit hlt
        rw [hdec] at this
        exact this
      obtain ⟨W1, hW1⟩ : ∃ W, wr.iterAt w.heap.size s (p + wd) = W := ⟨_, rfl⟩
      rw [hW1] at hnx
      have it1 : W1.heap[w.heap.size]? = some (.stringIter s (p + wd)) := hW1 ▸ Lib.iterAt_heap wr w.heap.size s p (p + wd) hit
      have own1 : OwnsS W1 (w.heap.size + 1) (.slice a xs.length k) xs := hW1 ▸ own.iterAt hit _
      have bel1 : Below w.heap.size w W1 := hW1 ▸ Lib.below_iterAt bel (Nat.le_refl _) s _
      have z1 : w.heap.size < W1.heap.size := (Array.getElem?_eq_some_iff.1 it1).1
      obtain ⟨w1, w2, w3, w4, w5, w6⟩ := hw1
      clear hW1 hdec hit own bel hgl zr
      by_cases hfull : xs.length = most
      · have e1 : xs.map (·.data.toList) = T := by
          have := hr.out
          rwa [hfull, Nat.sub_self, List.take_zero, List.append_nil] at this
        have hf : ((xs.length : Int) = (most : Int)) := by omega
        clear w6 hr
        go_wp2
        go_ret
        exact ⟨_, _, xs, rfl, ⟨World.ownsRow.mono own1 (by omega), e1, bel1⟩⟩
      · have hf : ¬ ((xs.length : Int) = (most : Int)) := by omega
        by_cases hend : ru = 13 ∧ rr = 10
        · obtain ⟨rfl, rfl⟩ := hend
          obtain ⟨rfl, rfl⟩ := w4 rfl
          have hb := h13 rfl
          obtain ⟨y, hy⟩ : ∃ y, s.extract b (p - 1) = y := ⟨_, rfl⟩
          have hyd : y.data.toList = (s.data.toList.take (p - 1)).drop b := by rw [← hy, Lib.extract_data, List.drop_take]
          have hsl : ∀ W, (Instr.slice 9 (.string s) (some (.int .i64 (b : Int))) (some (.int .i64 ((p : Int) - 1))) none).run Tryd.prog W = .ok (.string y) W := fun W => by
            rw [run_slice_string (P := Tryd.prog) W 9 s .i64 .i64 b ((p : Int) - 1) (by kernel_rfl) (by omega) (by omega) (by omega)]
            rw [show ((p : Int) - 1).toNat = p - 1 by omega, Int.toNat_natCast, hy]
          obtain ⟨xs', hxs⟩ : ∃ xs', xs ++ [y] = xs' := ⟨_, rfl⟩
          have HXS : Hid (xs ++ [y] = xs') := hxs
          have HL : Hid (xs'.length = xs.length + 1) := by show _ = _; rw [← hxs]; simp
          have hq : Hid (xs'.map (·.data.toList) ++ (lnP (s.data.toList.drop (p + 1)) ((s.data.toList.take (p + 1)).drop (p + 1)) (decide ((10 : Nat) = 13))).take (most - xs'.length) = T) := by
            show _ = _
            rw [← hr.out, hdr, lnP_eq, if_pos ⟨by decide, rfl⟩, ← hxs]
            have hcount : most - xs.length = (most - (xs ++ [y]).length) + 1 := by simp; omega
            rw [hcount, List.take_succ_cons, List.map_append, List.append_assoc]
            congr 1
            rw [show (s.data.toList.take (p + 1)).drop (p + 1) = [] from List.drop_eq_nil_of_le (by rw [List.length_take]; omega)]
            simp only [List.map_cons, List.map_nil, List.singleton_append]
            congr 1
            rw [hyd, cut_last_ft hb (by omega)]
          clear w6 w5 hr hxs
          go_wp2_with (at_builtin; refine wpList_appS _ rfl _ _ rfl (w.heap.size + 1) _ xs rfl (own1.alloc _) _ _ y rfl ?appC xs' HXS.out (by omega) (by simp; omega) ?_)
          intro a' c' w2' o2 b2
          have it2 : w2'.heap[w.heap.size]? = some (.stringIter s (p + 1)) := (b2.block _ (by omega)).trans ((heap_alloc_old _ _ z1).trans it1)
          have bel2 : Below w.heap.size w w2' := (bel1.alloc (by omega) _).trans (b2.mono (by omega))
          clear it1 own1 bel1 b2 hnx hsl
          go_wp2
          exact ⟨⟨p + 1, p + 1, xs', a', c', 10, by omega, Nat.le_refl _, rfl, int_eq (by omega), rfl, (fun h => by cases h), by have := HL.out; omega, by have := HL.out; omega, it2, o2, bel2, hq⟩, by rw [iterPos_of it2, pos0]; omega⟩
        · have hq := w6 hend
          have hr2 : Hid (xs.map (·.data.toList) ++ (lnP (s.data.toList.drop (p + wd)) ((s.data.toList.take (p + wd)).drop b) (decide (rr = 13))).take (most - xs.length) = T) := by
            show _ = _
            rw [← hq]; exact hr.out
          clear w6 hr hq
          by_cases h1 : ru = 13
          · have h2 : ¬ rr = 10 := fun e => hend ⟨h1, e⟩
            subst h1
            go_wp2
            exact ⟨⟨p + wd, b, xs, a, k, rr, by omega, by omega, rfl, rfl, rfl, fun _ => by omega, hxm, by omega, it1, own1, bel1, hr2⟩, by rw [iterPos_of it1, pos0]; omega⟩
          · go_wp2
            exact ⟨⟨p + wd, b, xs, a, k, rr, by omega, by omega, rfl, rfl, rfl, fun _ => by omega, hxm, by omega, it1, own1, bel1, hr2⟩, by rw [iterPos_of it1, pos0]; omega⟩
    · have hnx : ∀ ty, (Instr.next (.pointer (some ⟨w.heap.size, 0, none⟩)) true ty).run Tryd.prog wr = .ok (.tuple #[.bool false]) wr := fun ty => Lib.run_next_end_at wr w.heap.size s p ty hit hlt
      have e1 : xs.map (·.data.toList) = T := by
        have := hr.out
        rwa [drop_end s p hlt, show lnP [] ((s.data.toList.take p).drop b) (decide (ru = 13)) = [] from rfl, List.take_nil, List.append_nil] at this
      clear hr
      go_wp2
      go_ret
      exact ⟨_, _, xs, rfl, ⟨World.ownsRow.mono own (by omega), e1, bel⟩⟩
end Go.Proofs.YtnadfacbfcdkgaaDoor
