/- Texts joined: CkM -/
import Derived.Test.YtgppfkbapieneaaDoorCox20
namespace Go.Proofs.YtgppfkbapieneaaDoor
open Go.RowKit
set_option linter.unusedVariables false
set_option linter.unusedSimpArgs false
set_option maxRecDepth 100000 in
set_option maxHeartbeats 1000000 in
theorem equalI_any (a a' : Option Addr) (c c' : Nat) (l l' : List Int) (w : World) (h : RowI w a l) (h' : RowI w a' l') :
    Calls Tryd.prog 32 #[.slice a l.length c, .slice a' l'.length c'] w fun e w' => e = .returned (.bool (decide (l = l'))) ∧ Below w.heap.size w w' := by
  have hs := h.small
  by_cases hl : l.length = l'.length
  · obtain ⟨T, hT⟩ : ∃ T, decide (l = l') = T := ⟨_, rfl⟩
    rw [hT]
    have HT : Hid (decide (l = l') = T) := hT
    have HL : Hid (l.length = l'.length) := hl
    rw [← hl]
    obtain ⟨N, hN⟩ : ∃ N, l.length = N := ⟨_, rfl⟩
    have HN : Hid (l.length = N) := hN
    rw [hN] at hs ⊢
    clear hT hl hN
    go_enter Tryd.func32, Tryd.ntmps32
    go_wp2
    go_loopw [13] (fun i w' => ∃ (k m : Nat), k ≤ N ∧ i = .int .i64 k ∧ w' = w.drewN m ∧ Hid (l.take k = l'.take k)) (fun i _ => N - (intOf i).toNat)
    case atStart => exact ⟨0, 0, Nat.zero_le _, rfl, rfl, by show l.take 0 = l'.take 0; simp⟩
    case round =>
      obtain ⟨k, m, hk, rfl, rfl, ho⟩ := hrel
      by_cases hlt : k < N
      · obtain ⟨b, off, rfl, hcl⟩ := (h.drewN m).cells (by have := HN.out; omega)
        obtain ⟨b', off', rfl, hcl'⟩ := (h'.drewN m).cells (by have := HN.out; have := HL.out; omega)
        have c0 := hcl k (by have := HN.out; omega)
        have c1 := hcl' k (by have := HN.out; have := HL.out; omega)
        have hlk : (k : Int) < (N : Int) := by omega
        have hst : Hid ((l.take (k + 1) = l'.take (k + 1)) ↔ l.getD k 0 = l'.getD k 0) := by
          show _ ↔ _
          have e1 : l.take (k + 1) = l.take k ++ [l.getD k 0] := by rw [List.take_succ_eq_append_getElem (by have := HN.out; omega)]; simp [show k < l.length by have := HN.out; omega]
          have e2 : l'.take (k + 1) = l'.take k ++ [l'.getD k 0] := by rw [List.take_succ_eq_append_getElem (by have := HN.out; have := HL.out; omega)]; simp [show k < l'.length by have := HN.out; have := HL.out; omega]
          rw [e1, e2, ho.out]
          simp
        obtain ⟨W, hW⟩ : ∃ W, w.drewN m = W := ⟨_, rfl⟩
        rw [hW] at c0 c1 ⊢
        have HW : Hid (w.drewN m = W) := hW
        clear hcl hcl' h h' hW
        generalize l.getD k 0 = x at *
        generalize l'.getD k 0 = y at *
        by_cases hxy : x = y
        · have hxy' : (x != y) = false := by simpa using hxy
          go_wp2
          go_quiet (fail)
          go_wp2
          exact ⟨⟨k + 1, m + nq, by omega, int_eq (by omega), by rw [← HW.out]; exact drewN_add w m nq, hst.out.2 hxy⟩, by simp [intOf]; omega⟩
        · have hxy' : (x != y) = true := by simpa using hxy
          have ET : Hid (false = T) := by
            show false = T
            rw [← HT.out]
            symm
            simp only [decide_eq_false_iff_not]
            intro e
            exact hxy (hst.out.1 (by rw [e]))
          go_wp2
          go_quiet (fail)
          go_wp2
          go_ret
          exact ⟨by rw [← ET.out]; rfl, by rw [← HW.out]; exact below_drewN (below_drewN (Below.refl _ _) m) nq⟩
      · have hlt' : ¬ (k : Int) < (N : Int) := by omega
        have ET : Hid (true = T) := by
          show true = T
          rw [← HT.out]
          symm
          simp only [decide_eq_true_eq]
          have := ho.out
          rw [List.take_of_length_le (by have := HN.out; omega), List.take_of_length_le (by have := HN.out; have := HL.out; omega)] at this
          exact this
        go_wp2
        go_ret
        exact ⟨by rw [← ET.out]; rfl, below_drewN (Below.refl _ _) m⟩
  · have hf : decide (l = l') = false := by
      simp only [decide_eq_false_iff_not]
      intro e
      exact hl (by rw [e])
    rw [hf]
    have hl' : ((l.length : Int) != (l'.length : Int)) = true := by simp; omega
    go_enter Tryd.func32, Tryd.ntmps32
    go_wp2
    go_ret
    exact ⟨rfl, Below.refl _ _⟩
theorem info_ints : (Tryd.prog.info? 24).map (fun i => (i.zero, i.size, i.bytes)) = some (some (.slice none 0 0), 1, 24) := by kernel_rfl
/-- A slice of sets of one's own. -/
structure SetsO (w : World) (B : Nat) (a : Option Addr) (c : Nat) (S : List (List Nat)) (vs : List Value) : Prop where
  row : w.ownsRow B 24 1 (.slice a S.length c) S.length vs
  each : ∀ (i : Nat) (s : List Nat), S[i]? = some s → ∃ ai ci, vs[i]? = some (Value.slice ai s.length ci) ∧ OwnI w B ai ci s
theorem SetsO.nil (w : World) (B : Nat) : SetsO w B none 0 [] [] := ⟨World.ownsRow_nil _ _ _ _, fun i s h => by simp at h⟩
theorem ownsRow_low {w w' : World} {B : Nat} {t : TypeId} {k n : Nat} {v : Value} {xs : List Value} (h : w.ownsRow B t k v n xs) (hb : Below w.heap.size w w') : w'.ownsRow B t k v n xs := by
  obtain ⟨h1, h2⟩ := h
  refine ⟨h1, ?_⟩
  rcases h2 with h2 | ⟨g, cap, cur, h3, h4, h5, h6⟩
  · exact .inl h2
  · refine .inr ⟨g, cap, cur, h3, h4, (hb.block g ?_).trans h5, h6⟩
    exact (Array.getElem?_eq_some_iff.1 h5).1
theorem ownsRow_far {w w' : World} {B : Nat} {t : TypeId} {k n : Nat} {v : Value} {xs : List Value} {x : Option Nat} (h : w.ownsRow B t k v n xs) (hg : w.grownBy w' x) (hx : ∀ g, v.ownBlock = some g → x ≠ some g) : w'.ownsRow B t k v n xs := by
  obtain ⟨h1, h2⟩ := h
  refine ⟨h1, ?_⟩
  rcases h2 with h2 | ⟨g, cap, cur, h3, h4, h5, h6⟩
  · exact .inl h2
  · refine .inr ⟨g, cap, cur, h3, h4, ?_, h6⟩
    rw [hg.block g (Array.getElem?_eq_some_iff.1 h5).1 (fun e => hx g (by rw [h3]; rfl) e.symm)]
    exact h5
theorem SetsO.below {w w' : World} {B : Nat} {a : Option Addr} {c : Nat} {S : List (List Nat)} {vs : List Value} (h : SetsO w B a c S vs) (hb : Below w.heap.size w w') : SetsO w' B a c S vs :=
  ⟨ownsRow_low h.row hb, fun i s hi => by
    obtain ⟨ai, ci, h1, h2⟩ := h.each i s hi
    exact ⟨ai, ci, h1, h2.below hb⟩⟩
theorem Blk.ty {w : World} {g : Nat} {t t' : TypeId} {cs cs' : Array Value} (h : Blk w g t cs) (h' : Blk w g t' cs') : t = t' := by
  have h1 : w.heap[g]? = some (.cells cs t (0, 0)) := h
  have h2 : w.heap[g]? = some (.cells cs' t' (0, 0)) := h'
  rw [h1] at h2
  simp only [Option.some.injEq, Obj.cells.injEq] at h2
  exact h2.2.1
theorem ownsRow_blk {w : World} {B : Nat} {t : TypeId} {k n : Nat} {v : Value} {xs : List Value} (h : w.ownsRow B t k v n xs) {g : Nat} (hg : v.ownBlock = some g) : ∃ cur, Blk w g t cur := by
  obtain ⟨h1, h2⟩ := h
  rcases h2 with ⟨h2, _⟩ | ⟨g', cap, cur, h3, h4, h5, h6⟩
  · rw [h2] at hg
    cases hg
  · rw [h3] at hg
    cases hg
    exact ⟨cur, h5⟩
theorem slice_blk (a : Option Addr) (n c : Nat) : (Value.slice a n c).ownBlock = a.map (·.block) := by
  cases a with
  | none => rfl
  | some ad => cases ad; rfl
/-- A block of another kind is not touched by an append to a slice of one's own. -/
theorem ownsRow_off {w : World} {B : Nat} {t t' : TypeId} {k n : Nat} {v : Value} {xs : List Value} (h : w.ownsRow B t k v n xs) {g : Nat} {cs : Array Value} (hb : Blk w g t' cs) (ht : t ≠ t') : v.ownBlock ≠ some g := fun e => by
  obtain ⟨cur, h1⟩ := ownsRow_blk h e
  exact ht (h1.ty hb)
theorem SetsO.far {w w' : World} {B : Nat} {a : Option Addr} {c : Nat} {S : List (List Nat)} {vs : List Value} {x : Option Nat} (h : SetsO w B a c S vs) (hg : w.grownBy w' x) (hx : a.map (·.block) = none ∨ x ≠ a.map (·.block)) (hi : ∀ (i : Nat) (s : List Nat) (ai : Option Addr) (ci : Nat), S[i]? = some s → vs[i]? = some (Value.slice ai s.length ci) → ∀ y, ai = some y → x ≠ some y.block) : SetsO w' B a c S vs :=
  ⟨ownsRow_far h.row hg (fun g e => by
    rw [slice_blk] at e
    rcases hx with hx | hx
    · rw [hx] at e; cases e
    · rw [e] at hx; exact hx), fun i s hs => by
    obtain ⟨ai, ci, h1, h2⟩ := h.each i s hs
    exact ⟨ai, ci, h1, h2.far hg (fun y hy => hi i s ai ci hs h1 y hy)⟩⟩
/-- A slice of slices of numbers, as it is read. -/
structure RowS (w : World) (a : Option Addr) (S : List (List Int)) : Prop where
  small : S.length ≤ 17592186044416
  cells : ∀ (i : Nat) (s : List Int), S[i]? = some s → ∃ b off ai ci, a = some ⟨b, off, none⟩ ∧ w.cell? ⟨b, off + i, none⟩ = some (Value.slice ai s.length ci) ∧ RowI w ai s
theorem RowS.below {w w' : World} {a : Option Addr} {S : List (List Int)} (h : RowS w a S) (hb : Below w.heap.size w w') : RowS w' a S :=
  ⟨h.small, fun i s hi => by
    obtain ⟨b, off, ai, ci, h1, h2, h3⟩ := h.cells i s hi
    exact ⟨b, off, ai, ci, h1, kept hb h2, h3.below hb⟩⟩
abbrev ints (l : List Nat) : List Int := l.map fun i : Nat => (i : Int)
theorem SetsO.rows {w : World} {B : Nat} {a : Option Addr} {c : Nat} {S : List (List Nat)} {vs : List Value} (h : SetsO w B a c S vs) (hs : S.length ≤ 17592186044416) (hl : ∀ s ∈ S, s.length ≤ 17592186044416) : RowS w a (S.map ints) := by
  refine ⟨by simpa using hs, fun i s' hi => ?_⟩
  rw [List.getElem?_map, Option.map_eq_some_iff] at hi
  obtain ⟨s, hi, rfl⟩ := hi
  obtain ⟨ai, ci, h1, h2⟩ := h.each i s hi
  obtain ⟨r1, r2⟩ := h.row
  have hlt : i < S.length := (List.getElem?_eq_some_iff.1 hi).1
  rcases r2 with ⟨_, r3⟩ | ⟨g, cap, cur, r3, r4, r5, r6, r7, r8, r9⟩
  · omega
  · simp only [Value.slice.injEq] at r3
    obtain ⟨rfl, _, rfl⟩ := r3
    have hb : Blk w g 24 cur := r5
    refine ⟨g, 0, ai, ci, rfl, hb.cell _ _ ?_, h2.row (hl s (List.mem_of_getElem? hi))⟩
    rw [Nat.zero_add]
    have h11 : (cur.toList.take (S.length * 1))[i]? = vs[i]? := by rw [r9]
    rw [List.getElem?_take_of_lt (by omega), Array.getElem?_toList] at h11
    rw [h11, h1]
    simp
/-- The place of a set among sets, or -1. -/
def ixS (S : List (List Int)) (s : List Int) : Int := match S.findIdx? (fun t => decide (t = s)) with
  | some i => i
  | none => -1
set_option maxRecDepth 100000 in
set_option maxHeartbeats 1000000 in
theorem cut1_any (a a' : Option Addr) (c c' bx : Nat) (l l' : List Int) (w : World) (h : RowI w a l) (h' : RowI w a' l') (hx : w.cell? ⟨bx, 0, none⟩ = some (.slice a' l'.length c')) :
    Calls Tryd.prog 31 #[.slice a l.length c, .pointer (some ⟨bx, 0, none⟩)] w fun e w' => e = .returned (.bool (decide (l = l'))) ∧ Below w.heap.size w w' := by
  have K := hidW (equalI_any a a' c c' l l' w h h')
  obtain ⟨T, hT⟩ : ∃ T, decide (l = l') = T := ⟨_, rfl⟩
  rw [hT] at K ⊢
  clear hT h h'
  generalize l.length = n at *
  generalize l'.length = n' at *
  go_enter Tryd.func31, Tryd.ntmps31
  go_wp2_with fail
  refine Calls.mono K.out ?_
  rintro e W2 ⟨rfl, bb⟩
  go_wp2
  go_ret
  exact ⟨rfl, bb⟩
set_option maxRecDepth 100000 in
set_option maxHeartbeats 4000000 in
theorem indexS_any (a sa : Option Addr) (c sc bx : Nat) (S : List (List Int)) (s : List Int) (w : World) (hr : RowS w a S) (hs : RowI w sa s) (hx : w.cell? ⟨bx, 0, none⟩ = some (.slice sa s.length sc)) :
    Calls Tryd.prog 30 #[.slice a S.length c, .func (.func 31) #[] #[.pointer (some ⟨bx, 0, none⟩)]] w fun e w' => e = .returned (.int .i64 (ixS S s)) ∧ Below w.heap.size w w' := by
  have few := hr.small
  obtain ⟨N, hN⟩ : ∃ N, S.length = N := ⟨_, rfl⟩
  have HN : Hid (S.length = N) := hN
  have HR : Hid (RowS w a S) := hr
  have HS : Hid (RowI w sa s) := hs
  have HX : Hid (w.cell? ⟨bx, 0, none⟩ = some (.slice sa s.length sc)) := hx
  have hcf : ∀ args w, (callFunc 31 args).run Tryd.prog w = .ok (.enter 31 args) w := Tryd.call31
  rw [hN] at few ⊢
  clear hr hN hs hx
  go_enter Tryd.func30, Tryd.ntmps30
  go_wp2_with fail
  go_loopw [8] (fun i wr => ∃ (k : Nat), k ≤ N ∧ i = .int .i64 k ∧ Below w.heap.size w wr ∧ Hid (∀ j t, j < k → S[j]? = some t → t ≠ s)) (fun i _ => N - (intOf i).toNat)
  case atStart => exact ⟨0, Nat.zero_le _, rfl, Below.refl _ _, fun j p hj => by omega⟩
  case round =>
    obtain ⟨k, hk, rfl, qb, qe⟩ := hrel
    by_cases hlt : k < N
    · have ik : (k : Int) < (N : Int) := by omega
      obtain ⟨t, ht⟩ : ∃ t, S[k]? = some t := ⟨_, List.getElem?_eq_getElem (by rw [HN.out]; exact hlt)⟩
      obtain ⟨b, off, ai, ci, ha, d0, hri⟩ := (HR.out.below qb).cells k t ht
      have KK : Hid _ := cut1_any ai sa ci sc bx t s wr hri (HS.out.below qb) (kept qb HX.out)
      have HTK : Hid (S[k]? = some t) := ht
      subst ha
      clear ht hri
      obtain ⟨n, hn⟩ : ∃ n, t.length = n := ⟨_, rfl⟩
      rw [hn] at KK d0
      clear hn
      go_wp2_with fail
      refine Calls.mono KK.out ?_
      rintro e W2 ⟨rfl, bb⟩
      have b2 := bel_tr qb bb
      clear KK bb d0 qb
      by_cases hts : t = s
      · have hix : Hid (ixS S s = (k : Int)) := by
          show _ = _
          have : S.findIdx? (fun t => decide (t = s)) = some k := by
            rw [List.findIdx?_eq_some_iff_getElem]
            obtain ⟨h1, h2⟩ := List.getElem?_eq_some_iff.1 HTK.out
            refine ⟨h1, by simp [h2, hts], fun j hj => ?_⟩
            have := qe.out j _ hj (List.getElem?_eq_getElem (by omega))
            simpa using this
          unfold ixS
          rw [this]
        have hd : decide (t = s) = true := by simp [hts]
        rw [hd]
        clear qe hd
        go_wp2
        go_ret
        exact ⟨by rw [hix.out]; rfl, b2⟩
      · have hd : decide (t = s) = false := by simp [hts]
        have HN' : Hid (∀ j q, j < k + 1 → S[j]? = some q → q ≠ s) := fun j q hj hq => by
          by_cases e : j = k
          · subst e
            rw [HTK.out] at hq
            cases hq
            exact hts
          · exact qe.out j q (by omega) hq
        rw [hd]
        clear qe hd
        go_wp2
        exact ⟨⟨k + 1, by omega, by go_num, b2, HN'⟩, by simp [intOf]; omega⟩
    · have ik : ¬ (k : Int) < (N : Int) := by omega
      have hix : Hid (ixS S s = -1) := by
        show _ = _
        have : S.findIdx? (fun t => decide (t = s)) = none := by
          rw [List.findIdx?_eq_none_iff]
          intro x hx
          obtain ⟨j, hj⟩ := List.getElem?_of_mem hx
          have hjl : j < S.length := (List.getElem?_eq_some_iff.1 hj).1
          have := qe.out j x (by have := HN.out; omega) hj
          simpa using this
        unfold ixS
        rw [this]
      clear qe
      go_wp2
      go_ret
      exact ⟨by rw [hix.out]; rfl, qb⟩
/-- append(sets, set). -/
theorem wpList_appS {ops : Array Oper} {rest : List Oper} {o : Oper} {ac : Act} {Q : Exit → Act → World → Prop} (w : World) (hgd : o.guard = none) (s x : Operand)
    (ho : o.op = .call { callee := .builtin .append, args := #[s, x], argTypes := #[25, 25] })
    (B : Nat) (a : Option Addr) (c n : Nat) (vs : List Value) (hs : ac.eval s = .slice a n c) (hown : w.ownsRow B 24 1 (.slice a n c) n vs)
    (ad : Addr) (cc : Nat) (y : Option Addr) (yn yc : Nat) (hx : ac.eval x = .slice (some ad) 1 cc) (hc : w.cell? ad = some (.slice y yn yc))
    (hsum : n + 1 ≤ 1000000) (hbase : B ≤ w.heap.size)
    (h : ∀ g c' w', w'.ownsRow B 24 1 (.slice (some ⟨g, 0, none⟩) (n + 1) c') (n + 1) (vs ++ [.slice y yn yc]) → Below B w w' → w.grownBy w' (a.map (·.block)) → (a.map (·.block) = some g ∨ g = w.heap.size) → g < w'.heap.size → wpList Tryd.prog ops Q rest (ac.put o.dst (.slice (some ⟨g, 0, none⟩) (n + 1) c')) w') : wpList Tryd.prog ops Q (o :: rest) ac w := by
  obtain ⟨i0, hi, hz0, hz1, hz2⟩ := info_parts info_ints
  refine wpList_append_lies w hgd s x 25 ho B 24 i0 (.slice none 0 0) 1 24 Tryd.underlying25 hi hz0 hz1 hz2 rfl (by decide) (.slice a n c) n vs hs hown ad 1 cc [Value.slice y yn yc] hx (by simp) ?_ (by intro u hu; simp at hu; rw [hu]; rfl) (by decide) (by unfold maxLen; omega) (by omega) hbase _ rfl ?_
  · intro j u hj
    have hjl : j = 0 := by
      have := (List.getElem?_eq_some_iff.1 hj).1
      simp at this; omega
    subst hjl
    have e1 : Addr.add ad 0 = ad := by cases ad; rfl
    rw [e1, hc]
    simpa using hj
  · intro g cap w' h1 h2 h3 h4
    rw [slice_blk] at h2 h3
    refine h g cap w' h1 ((Below.refl _ _).grown h2 hbase fun k hk => ?_) h2 h3 h4
    obtain ⟨q1, q2⟩ := hown
    rcases q2 with ⟨q2, _⟩ | ⟨g', cap', cur, q3, q4, q5, q6⟩
    · cases q2
      cases hk
    · cases q3
      cases hk
      exact q4
end Go.Proofs.YtgppfkbapieneaaDoor
