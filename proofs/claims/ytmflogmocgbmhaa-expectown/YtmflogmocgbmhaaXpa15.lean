/- Texts joined: XpF -/
import Derived.Test.YtmflogmocgbmhaaXpa14
namespace Go.Proofs.Ytmflogmocgbmhaa
open Go.RowKit
set_option linter.unusedVariables false
set_option linter.unusedSimpArgs false
theorem zero22 (m : Nat) : ∀ v ∈ (Builtin.zeroCells zwtV m).toList, v.oneCell' = true := by
  intro v hv
  simp only [Builtin.zeroCells, Array.toList_map, List.mem_map] at hv
  obtain ⟨i, _, rfl⟩ := hv
  show (zwtV[i % 22]!).oneCell' = true
  have h : ∀ k, k < 22 → (zwtV[k]!).oneCell' = true := by decide
  exact h _ (Nat.mod_lt _ (by decide))
theorem zero22_len (m : Nat) : (Builtin.zeroCells zwtV m).toList.length = m * 22 := by simp [Builtin.zeroCells]
/-- clear(s[k:]) of wants. -/
theorem clear_wts {w : World} {B g c : Nat} {l : List Wt} (h : OwnW w B (some ⟨g, 0, none⟩) c l) (k m cc : Nat) (hm : m + k = l.length) (h0 : 0 < m) (ty : TypeId) : ∃ cs, (Builtin.clear_ #[39] ty #[.slice (some ⟨g, k * 22, none⟩) m cc]).run Try.prog w = .ok (.tuple #[]) (w.setRow g cs) ∧ OwnW (w.setRow g cs) B (some ⟨g, 0, none⟩) c (l.take k) := by
  obtain ⟨cur, hb, hs, hBg, hlc, hcm, hel⟩ := h.blk
  have hst := run_storeCells_off g (k * 22) 28 (Builtin.zeroCells zwtV m).toList 0 cur w hb (by rw [zero22_len]; omega) (zero22 m)
  refine ⟨_, ?_, OwnW.mk' (hb.set (setMany cur (k * 22) (Builtin.zeroCells zwtV m).toList)) (by rw [setMany_sizeW]; exact hs) hBg (by simp; omega) hcm (fun i q j hi hj => ?_)⟩
  · obtain ⟨m', rfl⟩ : ∃ m', m = m' + 1 := ⟨m - 1, by omega⟩
    have hz : (zeroValue 28).run Try.prog w = .ok (.agg zwtV) w := Try.zeroValue28 w
    simp only [Nat.add_zero] at hst
    simp [Builtin.clear_, run_underlying Try.underlying39, hz, Value.cells, hst]
  · have hik : i < k := by
      have := (List.getElem?_eq_some_iff.1 hi).1
      simp at this
      omega
    rw [List.getElem?_take_of_lt hik] at hi
    rw [setMany_atW, if_neg (by omega)]
    exact hel i q j hi hj
theorem wpList_clear_xp {ops : Array Oper} {rest : List Oper} {o : Oper} {ac : Act} {Q : Exit → Act → World → Prop} {w : World} (hgd : o.guard = none) (t : TypeId) (s : Operand) (ho : o.op = .call { callee := .builtin .clear, args := #[s], argTypes := #[t] }) (v : Value) (hs : ac.eval s = v) (w' : World)
    (hrun : (Builtin.clear_ #[t] o.type #[v]).run Try.prog w = .ok (.tuple #[]) w') (h : wpList Try.prog ops Q rest (ac.put o.dst (.tuple #[])) w') : wpList Try.prog ops Q (o :: rest) ac w := by
  refine wpList_plain hgd fun K hK => ?_
  unfold Oper.wp execOp
  simp only [ho, resolve, invoke, builtin, Sem.run_bind, Sem.run_pure, Result.andThen_ok, List.map_toArray, List.map_cons, List.map_nil, hs, hrun]
  exact hK _ _ h
set_option maxRecDepth 100000 in
set_option maxHeartbeats 8000000 in
theorem del0_way (B : Nat) (a : Option Addr) (c : Nat) (l : List Wt) (cap : Value) (p : Wt → Bool) (w : World) (how : OwnW w B a c l) (hl : l.length ≤ 1000000)
    (hk : ∀ W (q : Wt), But (fun k => a.map (·.block) = some k) w W → Calls Try.prog 55 #[.agg q.v, cap] W fun e w' => e = .returned (.bool (p q)) ∧ Below W.heap.size W w') :
    Calls Try.prog 54 #[.slice a l.length c, .func (.func 55) #[] #[cap]] w fun e w' => e = .returned (.slice a (l.filter fun q => !(p q)).length c) ∧ OwnW w' B a c (l.filter fun q => !(p q)) ∧ But (fun k => a.map (·.block) = some k) w w' := by
  have hI := index0_way a c l cap p w (how.row fun _ _ => trivial) hl (fun W q hb => hk W q (But.of_below hb _))
  cases hfi : l.findIdx? p with
  | none =>
    have hf : (l.filter fun q => !p q) = l := List.filter_eq_self.2 fun q hq => by
      rw [List.findIdx?_eq_none_iff] at hfi
      rw [hfi q hq]; rfl
    rw [hf]
    rw [hfi] at hI
    have HO : Hid (OwnW w B a c l) := how
    have KI : Hid _ := hI
    generalize l.length = N at *
    clear how hk hfi hf hI
    have KI : Hid (Calls Try.prog 41 #[.slice a N c, .func (.func 55) #[] #[cap]] w fun e w' => e = .returned (.int .i64 (-1)) ∧ Below w.heap.size w w') := KI.out
    go_enter Try.func54, Try.ntmps54
    go_wp2_with fail
    refine Calls.mono KI.out ?_
    rintro e W1 ⟨rfl, bb⟩
    clear KI
    go_wp2_with fail
    go_ret
    exact ⟨rfl, HO.out.below bb, But.of_below bb _⟩
  | some k0 =>
    rw [hfi] at hI
    rw [List.findIdx?_eq_some_iff_getElem] at hfi
    obtain ⟨hk0, hp, hb4⟩ := hfi
    obtain ⟨y, rfl⟩ : ∃ y, a = some y := by
      cases a with
      | none =>
        have h5 := how.2
        rcases h5 with ⟨_, h6⟩ | ⟨g, cap', cur, h6, _⟩
        · omega
        · cases h6
      | some y => exact ⟨y, rfl⟩
    obtain ⟨g, rfl⟩ : ∃ g, y = ⟨g, 0, none⟩ := by
      rcases how.2 with ⟨h6, _⟩ | ⟨g, cap', cur, h6, _⟩
      · cases h6
      · simp only [Value.slice.injEq, Option.some.injEq] at h6
        exact ⟨g, h6.1⟩
    obtain ⟨D, hD⟩ : ∃ D, (l.filter fun q => !p q) = D := ⟨_, rfl⟩
    have HD : Hid ((l.filter fun q => !p q) = D) := hD
    rw [hD]
    clear hD
    have HO : Hid (OwnW w B (some ⟨g, 0, none⟩) c l) := how
    have hlc : l.length ≤ c := by obtain ⟨cur, hb, hs, hBg, hlc, hcm, hel⟩ := how.blk; exact hlc
    have hcm : c ≤ 9223372036854775807 := by obtain ⟨cur, hb, hs, hBg, hlc, hcm, hel⟩ := how.blk; exact hcm
    have hF0 : (l.take (k0 + 1)).filter (fun q => !p q) = l.take k0 := by
      rw [List.take_add_one, List.getElem?_eq_getElem hk0, List.filter_append]
      simp only [Option.toList_some, List.filter_cons, hp, List.filter_nil, Bool.not_true, Bool.false_eq_true, if_false, List.append_nil]
      refine List.filter_eq_self.2 fun q hq => ?_
      obtain ⟨j, hj⟩ := List.getElem?_of_mem hq
      have hjl : j < k0 := by
        have := (List.getElem?_eq_some_iff.1 hj).1
        simp at this
        omega
      rw [List.getElem?_take_of_lt hjl] at hj
      obtain ⟨h1, rfl⟩ := List.getElem?_eq_some_iff.1 hj
      have := hb4 j hjl
      simpa using this
    have HF0 : Hid ((l.take (k0 + 1)).filter (fun q => !p q) = l.take k0) := hF0
    have KS : Hid (∀ W (q : Wt), But (fun k => k = g) w W → Calls Try.prog 55 #[.agg q.v, cap] W fun e w' => e = .returned (.bool (p q)) ∧ Below W.heap.size W w') := fun W q hb => hk W q (by
      have e : (fun k => (some (⟨g, 0, none⟩ : Addr)).map (·.block) = some k) = fun k => k = g := by funext k; simp [eq_comm]
      rw [e]; exact hb)
    have KI : Hid _ := hI
    obtain ⟨N, hN⟩ : ∃ N, l.length = N := ⟨_, rfl⟩
    have HN : Hid (l.length = N) := hN
    rw [hN] at hl hlc hk0 ⊢
    have KI : Hid (Calls Try.prog 41 #[.slice (some ⟨g, 0, none⟩) N c, .func (.func 55) #[] #[cap]] w fun e w' => e = .returned (.int .i64 (k0 : Int)) ∧ Below w.heap.size w w') := by rw [← hN]; exact KI.out
    clear how hk hF0 hI hp hb4 hN
    have e0 : ((k0 : Int) == -1) = false := by
      simp
    have e1 : IntKind.i64.wrap ((k0 : Int) + 1) = ((k0 + 1 : Nat) : Int) := by simp [IntKind.wrap, IntKind.bits, IntKind.signed]; omega
    go_enter Try.func54, Try.ntmps54
    go_wp2_with fail
    refine Calls.mono KI.out ?_
    rintro e W1 ⟨rfl, bb⟩
    clear KI
    have O1 : Hid (OwnW W1 B (some ⟨g, 0, none⟩) c l) := HO.out.below bb
    have b1 : But (fun k => k = g) w W1 := But.of_below bb _
    clear bb
    go_wp2_with fail
    clear e0 e1
    go_loopw [5, 6] (fun iv jv wr => ∃ (i j : Nat) (M : List Wt), j ≤ N ∧ i < j ∧ iv = .int .i64 i ∧ jv = .int .i64 j ∧ Hid (OwnW wr B (some ⟨g, 0, none⟩) c M) ∧ Hid (M.length = N) ∧ Hid (M.take i = (l.take j).filter (fun q => !p q)) ∧ Hid (∀ m, j ≤ m → M[m]? = l[m]?) ∧ But (fun k => k = g) w wr) (fun _ jv _ => N - (intOf jv).toNat)
    case atStart => exact ⟨k0, k0 + 1, l, by omega, by omega, rfl, by first | rfl | go_num, O1, HN, HF0.out.symm, fun _ _ => rfl, b1⟩
    case round =>
      obtain ⟨i, j, M, hj, hij, rfl, rfl, OM, LM, TM, EM, bM⟩ := hrel
      by_cases hlt : j < N
      · have ik : (j : Int) < (N : Int) := by omega
        have in0 : (0 : Int) ≤ (j : Int) := by omega
        have ii0 : (0 : Int) ≤ (i : Int) := by omega
        have iiN : (i : Int) < (N : Int) := by omega
        obtain ⟨q, hq⟩ : ∃ q, l[j]? = some q := ⟨_, List.getElem?_eq_getElem (by rw [HN.out]; exact hlt)⟩
        have hM : M[j]? = some q := by rw [EM.out j (Nat.le_refl _)]; exact hq
        obtain ⟨b, off, ha, hc⟩ := (OM.out.row fun _ _ => trivial).cells j q hM
        obtain ⟨rfl, rfl⟩ : g = b ∧ 0 = off := by
          simp only [Option.some.injEq, Addr.mk.injEq] at ha
          exact ⟨ha.1, ha.2.1⟩
        have HQ : Hid (l[j]? = some q) := hq
        have HMj : Hid (M[j]? = some q) := hM
        obtain ⟨Wr, rfl⟩ : ∃ W, W = wr := ⟨_, rfl⟩
        obtain ⟨W0, hW0⟩ : ∃ W, Wr.alloc (.cells zwtV 28) = W := ⟨_, rfl⟩
        have Z0 := blk_nw hW0
        have hgl : g < Wr.heap.size := OM.out.lt_size _ rfl
        obtain ⟨WA, hWA⟩ : ∃ W, W0.setRow Wr.heap.size q.v = W := ⟨_, rfl⟩
        have O0 : OwnW W0 B (some ⟨g, 0, none⟩) c M := OM.out.below (bel_nw hW0)
        have OA : Hid (OwnW WA B (some ⟨g, 0, none⟩) c M) := by
          have h9 : OwnW (W0.setRow Wr.heap.size q.v) B (some ⟨g, 0, none⟩) c M := O0.at_ (fun y hy => by cases hy; exact setRow_heap_ne W0 Wr.heap.size g q.v (by omega))
          rw [hWA] at h9; exact h9
        have BA : But (fun k => k = g) w WA := by
          have h9 := (bM.below (bel_nw hW0)).setRow Wr.heap.size (.inr bM.size) q.v
          rw [hWA] at h9; exact h9
        have QA : Blk WA Wr.heap.size 28 q.v := by
          have h9 : Blk (W0.setRow Wr.heap.size q.v) Wr.heap.size 28 q.v := Z0.set q.v
          rw [hWA] at h9; exact h9
        have KK : Hid (Calls Try.prog 55 #[.agg q.v, cap] WA fun e w' => e = .returned (.bool (p q)) ∧ Below WA.heap.size WA w') := KS.out WA q BA
        clear hq hM ha
        clear O0
        go_wp2_with (first | (refine wpList_load_at_w rfl _ _ rfl g (0 + j * 22) (by first | rfl | (rw [Nat.zero_add]; rfl)) _ hc Try.underlying28 (wt_info q) ?_) | (refine wpList_store_row rfl _ _ _ rfl Wr.heap.size q.v (by rfl) (by rfl) _ _ Z0 (by kernel_rfl) (by rfl) (by kernel_rfl) ?_; rw [hWA]) | (refine wpList_load_blk_w (by rfl) _ _ rfl Wr.heap.size (by rfl) _ QA Try.underlying28 (by kernel_rfl) ?_))
        refine Calls.mono KK.out ?_
        rintro e W2 ⟨rfl, bb⟩
        have O2 : Hid (OwnW W2 B (some ⟨g, 0, none⟩) c M) := OA.out.below bb
        have B2 := BA.below bb
        have Q2 := QA.kept bb
        clear KK bb hc QA Z0 BA hWA hW0 bM
        have v1 : IntKind.i64.wrap ((j : Int) + 1) = ((j + 1 : Nat) : Int) := by simp [IntKind.wrap, IntKind.bits, IntKind.signed]; omega
        have v2 : IntKind.i64.wrap ((i : Int) + 1) = ((i + 1 : Nat) : Int) := by simp [IntKind.wrap, IntKind.bits, IntKind.signed]; omega
        cases hp : p q with
        | true =>
          have T2 : Hid (M.take i = (l.take (j + 1)).filter (fun q => !p q)) := by
            show _ = _
            rw [List.take_add_one, HQ.out, List.filter_append, ← TM.out]
            simp [hp]
          clear hp
          go_wp2_with fail
          exact ⟨⟨i, j + 1, M, by omega, by omega, rfl, by first | rfl | (congr 1), O2, LM, T2, fun m hm => EM.out m (by omega), B2⟩, by simp only [intOf]; omega⟩
        | false =>
          obtain ⟨cur, hb, hsz, hBg, O4⟩ := O2.out.put i q (by rw [LM.out]; omega)
          have HO4 : Hid (OwnW (W2.setRow g (setMany cur (i * 22) q.v.toList)) B (some ⟨g, 0, none⟩) c (M.set i q)) := O4
          have T2 : Hid ((M.set i q).take (i + 1) = (l.take (j + 1)).filter (fun q => !p q)) := by
            show _ = _
            rw [List.take_add_one (i := j), HQ.out, List.filter_append, ← TM.out, List.take_add_one, List.take_set_of_le (Nat.le_refl _), List.getElem?_set_self (by rw [LM.out]; omega)]
            simp [hp]
          have hsz' : i * 22 + q.v.size ≤ cur.size := hsz
          clear O4 hp hBg
          go_wp2_with (first | (refine wpList_load_blk_w (by rfl) _ _ rfl Wr.heap.size (by rfl) _ Q2 Try.underlying28 (by kernel_rfl) ?_) | refine wpList_store_off rfl 28 _ _ rfl g (i * 22) 28 q.v cur _ (by rfl) (by rfl) hb (by kernel_rfl) hsz' (by kernel_rfl) rfl ?_)
          exact ⟨⟨i + 1, j + 1, M.set i q, by omega, by omega, by first | rfl | (congr 1), by first | rfl | (congr 1), HO4, by show _ = _; rw [List.length_set]; exact LM.out, T2, fun m hm => by rw [List.getElem?_set_ne (by omega)]; exact EM.out m (by omega), B2.setRow g (.inl rfl) _⟩, by simp only [intOf]; omega⟩
      · have hend : j = N := by omega
        subst hend
        have ik : ¬ (j : Int) < (j : Int) := by omega
        have ED : Hid (M.take i = D) := by
          show _ = _
          rw [TM.out, List.take_of_length_le (by rw [HN.out]; exact Nat.le_refl _)]
          exact HD.out
        have hic : ¬ c = i := by omega
        have hiN : i ≤ j := by omega
        have hiI : (i : Int) ≤ (j : Int) := by omega
        have hiI2 : (i : Int) ≤ (c : Int) := by omega
        have hi0 : (0 : Int) ≤ (i : Int) := by omega
        obtain ⟨cs, hcl, O4⟩ := clear_wts OM.out i (j - i) (c - i) (by rw [LM.out]; omega) (by omega) 0
        have HO4 : Hid (OwnW (wr.setRow g cs) B (some ⟨g, 0, none⟩) c (M.take i)) := O4
        have HLD : Hid (D.length = i) := by show _ = _; rw [← ED.out, List.length_take, LM.out]; omega
        have HB4 : Hid (But (fun k => k = g) w (wr.setRow g cs)) := bM.setRow g (.inl rfl) cs
        clear O4 bM
        go_wp2_with (at_builtin; refine wpList_clear_xp rfl 39 _ rfl _ (by rfl) _ hcl ?_)
        go_ret
        have e : (fun k => g = k) = fun k => k = g := by funext k; simp [eq_comm]
        rw [HLD.out, ← ED.out]
        exact ⟨rfl, HO4.out, by rw [e]; exact HB4.out⟩
theorem del_way (B : Nat) (a : Option Addr) (c : Nat) (l : List Wt) (x : Wy) (g0 : Nat) (w : World) (how : OwnW w B a c l) (hl : l.length ≤ 1000000) (hg0 : Blk w g0 26 x.v) (hne : ∀ y, a = some y → y.block ≠ g0) :
    Calls Try.prog 54 #[.slice a l.length c, .func (.func 55) #[] #[.pointer (some ⟨g0, 0, none⟩)]] w fun e w' => e = .returned (.slice a (l.filter fun q => !(q.w.eqB x)).length c) ∧ OwnW w' B a c (l.filter fun q => !(q.w.eqB x)) ∧ But (fun k => a.map (·.block) = some k) w w' :=
  del0_way B a c l _ (fun q => q.w.eqB x) w how hl (fun W q hb => clos_way q x g0 W (hg0.but hb (fun e => by
    cases ha : a with
    | none => rw [ha] at e; cases e
    | some y => rw [ha] at e; cases e; exact hne y ha rfl)))
end Go.Proofs.Ytmflogmocgbmhaa
