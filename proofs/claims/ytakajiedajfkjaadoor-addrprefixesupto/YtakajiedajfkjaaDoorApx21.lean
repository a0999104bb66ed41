/- Texts joined: AtB AtD -/
import Derived.Test.YtakajiedajfkjaaDoorApx20
namespace Go.Proofs.YtakajiedajfkjaaDoor
open Go.RowKit
set_option linter.unusedVariables false
set_option linter.unusedSimpArgs false
theorem info_str : (Tryd.prog.info? 9).map (fun i => (i.zero, i.size, i.bytes)) = some (some (.string ByteArray.empty), 1, 16) := by kernel_rfl
/-- The slice value v owns the texts l, in a block of the call's own (from B on), or is nil and l empty. -/
def OwnsS (w : World) (B : Nat) (v : Value) (l : List ByteArray) : Prop := w.ownsRow B 9 1 v l.length (l.map Value.string)
theorem OwnsS.form {w : World} {B : Nat} {v : Value} {l : List ByteArray} (h : OwnsS w B v l) :
    ∃ a c, v = .slice a l.length c ∧ l.length ≤ c ∧ (a = none → c = 0) ∧ (∀ x, a = some x → B ≤ x.block ∧ x.off = 0 ∧ x.spot = none) ∧ v.ownBlock = a.map (·.block) := by
  obtain ⟨h1, h2⟩ := h
  rcases h2 with ⟨rfl, h3⟩ | ⟨g, cap, cur, rfl, h3, h4, h5, h6, h7, h8⟩
  · exact ⟨none, 0, by rw [h3], by omega, fun _ => rfl, fun _ h => (by cases h), rfl⟩
  · exact ⟨_, cap, rfl, h5, fun h => (by cases h), fun x hx => (by cases hx; exact ⟨h3, rfl, rfl⟩), rfl⟩
theorem OwnsS.nil (w : World) (B : Nat) : OwnsS w B (.slice none 0 0) [] := World.ownsRow_nil _ _ _ _
theorem OwnsS.alloc {w : World} {B : Nat} {v : Value} {l : List ByteArray} (h : OwnsS w B v l) (o : Obj) : OwnsS (w.alloc o) B v l := World.ownsRow.alloc h o
theorem OwnsS.drewN {w : World} {B : Nat} {v : Value} {l : List ByteArray} (h : OwnsS w B v l) (n : Nat) : OwnsS (w.drewN n) B v l := h
theorem OwnsS.below {w w' : World} {B : Nat} {v : Value} {l : List ByteArray} (h : OwnsS w B v l) (hb : Below w.heap.size w w') : OwnsS w' B v l := by
  obtain ⟨h1, h2⟩ := h
  refine ⟨h1, ?_⟩
  rcases h2 with h2 | ⟨g, cap, cur, h3, h4, h5, h6⟩
  · exact .inl h2
  · refine .inr ⟨g, cap, cur, h3, h4, (hb.block g ?_).trans h5, h6⟩
    exact (Array.getElem?_eq_some_iff.1 h5).1
/-- The texts that lie at a place. -/
def RowS (w : World) (a : Option Addr) (l : List ByteArray) : Prop := 0 < l.length → ∃ b off, a = some ⟨b, off, none⟩ ∧ ∀ i x, l[i]? = some x → w.cell? ⟨b, off + i, none⟩ = some (.string x)
theorem OwnsS.row {w : World} {B : Nat} {a : Option Addr} {c : Nat} {l : List ByteArray} (h : OwnsS w B (.slice a l.length c) l) : RowS w a l := by
  intro hp
  have h0 := h
  obtain ⟨h1, h2⟩ := h
  rcases h2 with ⟨h3, h4⟩ | ⟨g, cap, cur, h3, h4, h5, h6, h7, h8, h9⟩
  · omega
  · simp only [Value.slice.injEq] at h3
    obtain ⟨rfl, _, rfl⟩ := h3
    refine ⟨g, 0, rfl, fun i x hx => ?_⟩
    have hi : i < l.length := (List.getElem?_eq_some_iff.1 hx).1
    have hc := World.ownsRow.cellAt (e := 9) (size := 1) h0 i (by omega)
    rw [Nat.zero_add, hc]
    simp [hx]
theorem RowS.below {w w' : World} {a : Option Addr} {l : List ByteArray} (h : RowS w a l) (hb : Below w.heap.size w w') : RowS w' a l := fun hp => by
  obtain ⟨b, off, ha, hc⟩ := h hp
  exact ⟨b, off, ha, fun i x hx => (hb.cell (World.block_lt_of_cell? w _ (hc i x hx))).trans (hc i x hx)⟩
/-- append(v, x) of one text, which lies in a new block, on a slice of the call's own. -/
theorem wpList_appS {ops : Array Oper} {rest : List Oper} {o : Oper} {ac : Act} {Q : Exit → Act → World → Prop} (w : World) (hgd : o.guard = none) (s x : Operand)
    (ho : o.op = .call { callee := .builtin .append, args := #[s, x], argTypes := #[64, 64] })
    (B : Nat) (v : Value) (xs : List ByteArray) (hs : ac.eval s = v) (hown : OwnsS w B v xs)
    (ad : Addr) (c : Nat) (y : ByteArray) (hx : ac.eval x = .slice (some ad) 1 c) (hc : w.cell? ad = some (.string y))
    (r : List ByteArray) (hr : xs ++ [y] = r) (hsum : xs.length + 1 ≤ 8796093022208) (hbase : B ≤ w.heap.size)
    (h : ∀ a' c' w', OwnsS w' B (.slice a' r.length c') r → Below B w w' → wpList Tryd.prog ops Q rest (ac.put o.dst (.slice a' r.length c')) w') : wpList Tryd.prog ops Q (o :: rest) ac w := by
  subst hr
  obtain ⟨i0, hi, hz0, hz1, hz2⟩ := info_parts info_str
  refine wpList_append_own w hgd s x 64 ho B 9 i0 (.string ByteArray.empty) 1 16 Tryd.underlying64 hi hz0 hz1 hz2 rfl (by decide) v xs.length (xs.map Value.string) hs hown ad 1 c [Value.string y] hx (by simp) ?_ (by intro u hu; simp at hu; rw [hu]; rfl) (by unfold maxLen; omega) (by omega) hbase ?_
  · intro j u hj
    have hjl : j = 0 := by
      have := (List.getElem?_eq_some_iff.1 hj).1
      simp at this; omega
    subst hjl
    have e1 : Addr.add ad 0 = ad := by cases ad; rfl
    rw [e1, hc]
    simpa using hj
  · intro v' w' h1 h2 _
    have h1' : OwnsS w' B v' (xs ++ [y]) := by
      show w'.ownsRow B 9 1 v' (xs ++ [y]).length ((xs ++ [y]).map Value.string)
      rw [List.length_append, List.map_append]
      exact h1
    obtain ⟨a', c', rfl, _⟩ := h1'.form
    exact h a' c' w' h1' ((Below.refl _ _).grown h2 hbase fun k hk => (World.ownsRow.lt hown k hk).1)
/-- What Split answers: texts of its own. -/
structure GotS (w : World) (T : List (List UInt8)) (w' : World) (a : Option Addr) (k : Nat) (xs : List ByteArray) : Prop where
  owns : OwnsS w' w.heap.size (.slice a xs.length k) xs
  parts : xs.map (·.data.toList) = T
  below : Below w.heap.size w w'
set_option maxRecDepth 100000 in
set_option maxHeartbeats 2000000 in
theorem rsplit_any (s : ByteArray) (c : UInt8) (cn : Nat) (hcn : c.toNat = cn) (w : World) (hs : s.size < 4294967281) :
    Calls Tryd.prog 41 #[.string s, .int .u8 cn] w fun e w' => ∃ a k xs, e = .returned (.slice a xs.length k) ∧ GotS w (spl c s.data.toList) w' a k xs := by
  obtain ⟨T, hT⟩ : ∃ T, spl c s.data.toList = T := ⟨_, rfl⟩
  rw [hT]
  have HT : Hid (([] : List ByteArray).map (·.data.toList) ++ hds ((s.data.toList.drop 0).take (0 - 0)) (spl c (s.data.toList.drop 0)) = T) := by
    show _ = _
    simp only [List.map_nil, List.nil_append, List.drop_zero, Nat.sub_self, List.take_zero]
    rw [hds_nil (spl_ne c _)]
    exact hT
  clear hT
  go_enter Tryd.func41, Tryd.ntmps41
  go_wp2
  go_loopw [5, 6, 7] (fun l f i w' => ∃ (p q : Nat) (xs : List ByteArray) (a : Option Addr) (k : Nat), p ≤ s.size + 1 ∧ q ≤ p ∧ l = .slice a xs.length k ∧ f = .int .i64 q ∧ i = .int .i64 p ∧ xs.length ≤ p ∧ OwnsS w' w.heap.size (.slice a xs.length k) xs ∧ Below w.heap.size w w' ∧
      Hid (if p ≤ s.size then xs.map (·.data.toList) ++ hds ((s.data.toList.drop q).take (p - q)) (spl c (s.data.toList.drop p)) = T else xs.map (·.data.toList) = T)) (fun _ _ i _ => s.size + 1 - (intOf i).toNat)
  case atStart => exact ⟨0, 0, [], none, 0, Nat.zero_le _, Nat.le_refl _, rfl, rfl, rfl, Nat.zero_le _, OwnsS.nil _ _, Below.refl _ _, by show (if _ then _ else _); rw [if_pos (Nat.zero_le _)]; exact HT.out⟩
  case round =>
    obtain ⟨p, q, xs, a, k, hp, hqp, rfl, rfl, rfl, hx, own, bel, hr⟩ := hrel
    clear HT
    have zr := bel.size
    by_cases hlt : p ≤ s.size
    · have hr1 := hr.out
      rw [if_pos hlt] at hr1
      have ile : (p : Int) ≤ (s.size : Int) := by omega
      obtain ⟨y, hy⟩ : ∃ y, s.extract q p = y := ⟨_, rfl⟩
      have hyd : y.data.toList = (s.data.toList.drop q).take (p - q) := by rw [← hy]; exact Lib.extract_data s q p
      have hsl : ∀ W, (Instr.slice 9 (.string s) (some (.int .i64 (q : Int))) (some (.int .i64 (p : Int))) none).run Tryd.prog W = .ok (.string y) W := fun W => by
        rw [run_slice_string (P := Tryd.prog) W 9 s .i64 .i64 q p (by kernel_rfl) (by omega) (by omega) (by omega)]
        simp only [Int.toNat_natCast, hy]
      rw [← hyd] at hr1
      by_cases hend : p = s.size
      · have hq : Hid (if p + 1 ≤ s.size then (xs ++ [y]).map (·.data.toList) ++ hds ((s.data.toList.drop (p + 1)).take (p + 1 - (p + 1))) (spl c (s.data.toList.drop (p + 1))) = T else (xs ++ [y]).map (·.data.toList) = T) := by
          show (if _ then _ else _)
          rw [if_neg (by omega), ← hr1, drop_end s p (by omega)]
          simp [spl, hds]
        have ieq : ((p : Int) == (s.size : Int)) = true := by simp; omega
        have hxl : (xs ++ [y]).length ≤ p + 1 := by simp; omega
        have hpE : Hid (p = s.size) := hend
        obtain ⟨xs', hxs⟩ : ∃ xs', xs ++ [y] = xs' := ⟨_, rfl⟩
        rw [hxs] at hq hxl
        have HXS : Hid (xs ++ [y] = xs') := hxs
        clear hr hr1 hy hyd hend hxs
        go_wp2_with (at_builtin; refine wpList_appS _ rfl _ _ rfl w.heap.size _ xs rfl (own.alloc _) _ _ y rfl ?appC xs' HXS.out (by omega) (by simp; omega) ?_)
        case appC => first | (simp [go_sem]; done) | simp
        intro a' c' w2 o2 b2
        have b3 : Below w.heap.size w w2 := (bel.alloc zr _).trans b2
        go_wp2
        exact ⟨⟨p + 1, p + 1, xs', a', c', by omega, by omega, rfl, int_eq (by omega), int_eq (by omega), by omega, o2, b3, hq⟩, by simp [intOf]; omega⟩
      · have hlt' : p < s.size := by omega
        have ine : ((p : Int) == (s.size : Int)) = false := by simp; omega
        rw [drop_cons s p hlt'] at hr1
        obtain ⟨z, hz⟩ : ∃ z, (s[p]'hlt') = z := ⟨_, rfl⟩
        have hix : (Instr.index 9 (.string s) (.int .i64 (p : Int))).run Tryd.prog wr = .ok (.int .u8 (z.toNat : Int)) wr := by
          rw [run_index_string (P := Tryd.prog) wr 9 s .i64 p (by kernel_rfl), dif_pos (by omega)]
          simp only [Int.toNat_natCast, hz]
        rw [hz] at hr1
        unfold spl at hr1
        by_cases hc : z = c
        · rw [if_pos hc] at hr1
          have hq : Hid (if p + 1 ≤ s.size then (xs ++ [y]).map (·.data.toList) ++ hds ((s.data.toList.drop (p + 1)).take (p + 1 - (p + 1))) (spl c (s.data.toList.drop (p + 1))) = T else (xs ++ [y]).map (·.data.toList) = T) := by
            show (if _ then _ else _)
            rw [if_pos (by omega), ← hr1, Nat.sub_self, List.take_zero, hds_nil (spl_ne c _)]
            simp [hds]
          have ieq : ((z.toNat : Int) == (cn : Int)) = true := by rw [hc, hcn]; simp
          have hxl : (xs ++ [y]).length ≤ p + 1 := by simp; omega
          obtain ⟨zn, hzn⟩ : ∃ zn, z.toNat = zn := ⟨_, rfl⟩
          rw [hzn] at ieq hix
          obtain ⟨xs', hxs⟩ : ∃ xs', xs ++ [y] = xs' := ⟨_, rfl⟩
          rw [hxs] at hq hxl
          have HXS : Hid (xs ++ [y] = xs') := hxs
          clear hr hr1 hy hyd hend hz hc hzn hxs
          go_wp2_with (at_builtin; refine wpList_appS _ rfl _ _ rfl w.heap.size _ xs rfl (own.alloc _) _ _ y rfl ?appC xs' HXS.out (by omega) (by simp; omega) ?_)
          case appC => first | (simp [go_sem]; done) | simp
          intro a' c' w2 o2 b2
          have b3 : Below w.heap.size w w2 := (bel.alloc zr _).trans b2
          go_wp2
          exact ⟨⟨p + 1, p + 1, xs', a', c', by omega, by omega, rfl, int_eq (by omega), int_eq (by omega), by omega, o2, b3, hq⟩, by simp [intOf]; omega⟩
        · rw [if_neg hc, hds_hd1] at hr1
          have hq : Hid (if p + 1 ≤ s.size then xs.map (·.data.toList) ++ hds ((s.data.toList.drop q).take (p + 1 - q)) (spl c (s.data.toList.drop (p + 1))) = T else xs.map (·.data.toList) = T) := by
            show (if _ then _ else _)
            rw [if_pos (by omega), ← hr1, hyd]
            have : (s.data.toList.drop q).take (p + 1 - q) = (s.data.toList.drop q).take (p - q) ++ [z] := by
              rw [show p + 1 - q = (p - q) + 1 by omega, List.take_add_one, List.getElem?_drop, show q + (p - q) = p by omega]
              have : s.data.toList[p]? = some z := by
                rw [← hz]
                have h1 : p < s.data.toList.length := by simpa using hlt'
                rw [List.getElem?_eq_getElem h1]
                rfl
              rw [this]
              rfl
            rw [this]
          have ieq : ((z.toNat : Int) == (cn : Int)) = false := by
            simp only [beq_eq_false_iff_ne]
            intro e
            exact hc (UInt8.toNat_inj.1 (by omega))
          obtain ⟨zn, hzn⟩ : ∃ zn, z.toNat = zn := ⟨_, rfl⟩
          rw [hzn] at ieq hix
          clear hr hr1 hy hyd hend hz hc hzn hsl
          go_wp2
          exact ⟨⟨p + 1, q, xs, a, k, by omega, by omega, rfl, rfl, int_eq (by omega), by omega, own, bel, hq⟩, by simp [intOf]; omega⟩
    · have hr1 := hr.out
      rw [if_neg hlt] at hr1
      have ile : ¬ (p : Int) ≤ (s.size : Int) := by omega
      have HR : Hid _ := hr1
      clear hr hr1
      go_wp2
      go_ret
      exact ⟨a, k, xs, rfl, own, HR.out, bel⟩
end Go.Proofs.YtakajiedajfkjaaDoor
