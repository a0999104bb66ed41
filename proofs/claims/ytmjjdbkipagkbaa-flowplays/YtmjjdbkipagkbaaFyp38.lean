/- Texts joined: FwP -/
import Derived.Test.YtmjjdbkipagkbaaFyp37
import Derived.Maps.RangeWalk
import Derived.WalkKit
namespace Go.Proofs.Ytmjjdbkipagkbaa
open Go.RowKit
set_option linter.unusedVariables false
set_option linter.unusedSimpArgs false
theorem ranges_but {w w' : World} {b r n : Nat} {D : DataW Value} {left : Lit → Bool} {cnt : Nat} (h : w.ranges Try.prog 26 heldElem b r n D left cnt) {F : Nat → Prop} (k : But F w w') (hb : ¬ F b) (hr : ¬ F r) : w'.ranges Try.prog 26 heldElem b r n D left cnt := by
  have h1 := h.owns.lt
  have h2 := h.lt
  obtain ⟨es, clock, since, seen, c0, hb', F', hs, hD, hr', rest⟩ := h
  exact ⟨es, clock, since, seen, c0, (k.block b h1 hb).trans hb', F', hs, hD, (k.block r h2 hr).trans hr', rest⟩
/-- What is still to come, or stays. -/
def flF (G : List (Lit × Fl)) (now : Int) (left : Lit → Bool) : List (Lit × Fl) := G.filter fun p => left p.1 || decide (now < p.2.ends)
theorem flF_start {G : List (Lit × Fl)} (now : Int) (hk : ∀ p ∈ G, p.1 = keyW p.2.w) : flF G now (Maps.has (toDF G)) = G := by
  unfold flF
  refine List.filter_eq_self.2 (fun p hp => ?_)
  have : Maps.has (toDF G) p.1 = true := by
    rw [Maps.has_eq]
    exact List.any_eq_true.2 ⟨(p.1, .held (.agg p.2.v)), List.mem_map.2 ⟨p, hp, rfl⟩, WideAt.sameKey_self (by rw [hk p hp]; exact keyLit_way _)⟩
  simp [this]
theorem flF_end {G : List (Lit × Fl)} {now : Int} {left : Lit → Bool} (h : ∀ k, left k = false) : flF G now left = G.filter fun p => decide (now < p.2.ends) := by
  unfold flF
  congr 1
  funext p
  simp [h]
theorem keys_at {G : List (Lit × Fl)} (hK : Keys G) {p q : Lit × Fl} (hp : p ∈ G) (hq : q ∈ G) (e : p.1 = q.1) : p = q := by
  induction G with
  | nil => cases hp
  | cons y r ih =>
    obtain ⟨h1, h2⟩ := List.pairwise_cons.1 hK
    rcases List.mem_cons.1 hp with rfl | hp'
    · rcases List.mem_cons.1 hq with rfl | hq'
      · rfl
      · exact absurd e (h1 q hq')
    · rcases List.mem_cons.1 hq with rfl | hq'
      · exact absurd e.symm (h1 p hp')
      · exact ih h2 hp' hq'
theorem flF_stay {G : List (Lit × Fl)} {now : Int} {left : Lit → Bool} {k : Lit} {g : Fl} (hK : Keys G) (hl : look k (flF G now left) = some g) (ht : now < g.ends) : flF G now (fun z => left z && !z.sameKey k) = flF G now left := by
  have hm := look_mem hl
  unfold flF at hm ⊢
  have hg := (List.mem_filter.1 hm).1
  refine List.filter_congr (fun p hp => ?_)
  cases hs : p.1.sameKey k
  · simp [hs]
  · have e : p.1 = k := WideAt.sameKey_eq hs
    have : p = (k, g) := keys_at hK hp hg e
    subst this
    simp [ht]
theorem flF_drop {G : List (Lit × Fl)} {now : Int} {left : Lit → Bool} {k : Lit} {g : Fl} (hK : Keys G) (hl : look k (flF G now left) = some g) (ht : ¬ now < g.ends) : flF G now (fun z => left z && !z.sameKey k) = strike k (flF G now left) := by
  have hm := look_mem hl
  unfold flF at hm
  have hg := (List.mem_filter.1 hm).1
  unfold strike flF
  rw [List.filter_filter]
  refine List.filter_congr (fun p hp => ?_)
  cases hs : p.1.sameKey k
  · simp [hs]
  · have e : p.1 = k := WideAt.sameKey_eq hs
    have : p = (k, g) := keys_at hK hp hg e
    subst this
    have hs' : k.sameKey k = true := hs
    simp [ht, hs']
theorem tick_tab {w w' : World} {tb mb : Nat} {s : Ft} {G : List (Lit × Fl)} {now : Int} (h : TabF w tb mb s G) (h1 : ¬ now < s.now) (h2 : ¬ now > 4611686018427387904) (T : Blk w' tb 77 (tabV ⟨s.most, now, s.L⟩ mb)) {n : Nat} (M : OwnsF w' mb n (toDF (G.filter fun p => decide (now < p.2.ends)))) : TabF w' tb mb ⟨s.most, now, keepF now s.L⟩ (G.filter fun p => decide (now < p.2.ends)) := by
  have hn := h.ok.now
  refine ⟨T, ⟨ownF_tight M⟩, h.ne, h.ok.filter _ now (by omega) (fun f _ hd => by simpa using hd), h.keys.filter _, fun p hp => h.key p (List.mem_filter.1 hp).1, ?_⟩
  have e : (G.filter fun p => decide (now < p.2.ends)).map (·.2) = (G.map (·.2)).filter fun f => decide (now < f.ends) := by
    rw [List.filter_map]; rfl
  rw [e]
  exact h.perm.filter _
set_option maxRecDepth 100000 in
theorem step_delete_rngF {ops : Array Oper} {o : Oper} {ac : Act} {K : Act → World → Prop} {Q : Exit → Act → World → Prop} {Z : Prop} {w : World} (hgd : o.guard = none) (m x : Operand) (ho : o.op = Op.call { callee := Callee.builtin Builtin.delete, args := #[m, x], argTypes := #[75, 26] })
    (b r n : Nat) (D : DataW Value) (left : Lit → Bool) (cnt : Nat) (q : Wy) (kl : Lit) (hkl : kl = keyW q) (hm : ac.eval m = .map (some b)) (hx : ac.eval x = .agg q.v) (hS : w.ranges Try.prog 26 heldElem b r n D left cnt) (hk : q.kf)
    (h : ∀ w' cnt', w'.ranges Try.prog 26 heldElem b r n (D.del kl) (fun z => left z && !z.sameKey kl) cnt' → cnt' ≤ cnt → w.mapTurned w' b → K (ac.put o.dst (.tuple #[])) w') :
    if Region.wanted o (yielded ops ac.tmps) = true then Oper.wp Try.prog o ac w K Q else Z := by
  have hw : Region.wanted o (yielded ops ac.tmps) = true := by simp [Region.wanted, hgd]
  rw [if_pos hw]
  have hkey : keyOf Try.prog 26 (.agg q.v) = some kl := by rw [hkl]; exact key_way q hk
  obtain ⟨w', cnt', h1, h2, h3, h4⟩ := hS.drop keyWay Try.underlying75 hkey o.type
  unfold Oper.wp execOp
  simp only [ho, resolve, invoke, builtin, Sem.run_bind, Sem.run_pure, Result.andThen_ok, List.map_toArray, List.map_cons, List.map_nil, hm, hx, h1]
  exact h w' cnt' h2 h3 h4
set_option maxRecDepth 100000 in
set_option maxHeartbeats 16000000 in
theorem tick_at_fw (tb mb : Nat) (s : Ft) (G : List (Lit × Fl)) (now : Int) (w : World) (H0 : TabF w tb mb s G) :
    Calls Try.prog 24 #[.pointer (some ⟨tb, 0, none⟩), .int .i64 now] w fun e w' => e = .returned (.int .i64 (s.tick now).2) ∧ (∃ G', TabF w' tb mb (s.tick now).1 G') ∧ But (fun k => k = tb ∨ k = mb) w w' := by
  have nTM : tb ≠ mb := H0.ne
  have T := H0.tab
  have M := H0.map
  have H : Hid (TabF w tb mb s G) := H0
  clear H0
  have gT : (fun k => k = tb ∨ k = mb) tb ∨ w.heap.size ≤ tb := .inl (.inl rfl)
  have nMT : mb ≠ tb := fun e => nTM e.symm
  obtain ⟨R, hR⟩ : ∃ R, s.tick now = R := ⟨_, rfl⟩
  have HR : Hid (s.tick now = R) := hR
  try rw [hR]
  clear hR
  have b := But.refl (fun k => k = tb ∨ k = mb) w
  go_enter Try.func24, Try.ntmps24
  go_wp2_with fail
  refine Calls.mono (made_at tb mb s _ T) ?_
  rintro e Wm1 ⟨rfl, bb⟩
  have Tm1 := T.kept bb
  have Mm1 := M.kept bb
  have bm1 := b.below bb
  clear bb
  cases hq3 : (decide (now < s.now)) with
  | false =>
    cases hq5 : (decide (4611686018427387904 < now)) with
    | false =>
      have c6 := Tm1.cell 2 (.int .i64 s.now) rfl
      have y8 := Tm1.cell 2 (.int .i64 s.now) rfl
      have z9 := Tm1.frozen 2
      obtain ⟨Wm7, hWm7⟩ : ∃ W, Wm1.setCell ⟨tb, 2, none⟩ (.int .i64 now) = W := ⟨_, rfl⟩
      have Tm7 : Blk Wm7 tb 77 (tabV ⟨s.most, now, s.L⟩ mb) := hWm7 ▸ Tm1.put 2 (.int .i64 now)
      have Mm7 := hWm7 ▸ Mm1.put_other Tm1 nMT 2 (.int .i64 now)
      have bm7 := hWm7 ▸ bm1.setCell tb 2 (.inl (.inl rfl)) (.int .i64 now)
      have c10 := Tm7.cell 3 (.map (some mb)) rfl
      go_wp2_with (at_range; refine wpList_range_own _ rfl _ 75 rfl 26 33 keyWay Try.underlying75 heldElem mb G.length (toDF G) (by rfl) Mm7.own ?_; intro w0 hrg0 hg0 hs0)
      try go_frame
      have grr : w.heap.size ≤ Wm7.heap.size := bm7.size
      have hrt : Wm7.heap.size ≠ tb := by have := T.lt; omega
      go_loopw [] (fun wr => ∃ left cnt, Hid (wr.ranges Try.prog 26 heldElem mb Wm7.heap.size G.length (toDF (flF G now left)) left cnt) ∧ Blk wr tb 77 (tabV ⟨s.most, now, s.L⟩ mb) ∧ But (fun k => k = tb ∨ k = mb) w wr) (fun wr => wr.rangeLeft mb Wm7.heap.size)
      case atStart =>
        refine ⟨Maps.has (toDF G), Maps.size (toDF G), ?_, ?_, ?_⟩
        · rw [flF_start now H.out.key]; exact hrg0
        · exact (hg0.block tb Tm7.lt (by simp)).trans Tm7
        · exact bm7.grown hg0 (fun n hn => by cases hn)
      case round =>
        obtain ⟨left, cnt, hrg, Tr, br⟩ := hrel
        clear hrg0 hg0 hs0
        obtain ⟨Wr, rfl⟩ : ∃ W, W = wr := ⟨_, rfl⟩
        go_wp2_with (at_next; refine wpList_next_ranges _ rfl _ rfl 26 keyWay heldElem (fun v : Value => v) (fun v : Value => v) (fun key kl hk => ⟨key, rfl⟩) (fun v y _ => ⟨v, rfl⟩) mb Wm7.heap.size G.length _ _ _ (by rfl) hrg.out ?_ ?_)
        · intro hc0 hl0
          go_wp2_with fail
          have q1 : ¬ now < s.now := by simpa using (by assumption : decide (now < s.now) = false)
          have q2 : ¬ now > 4611686018427387904 := by simpa using (by assumption : decide (4611686018427387904 < now) = false)
          have hR2 : R = (⟨s.most, now, keepF now s.L⟩, 0) := by rw [← HR.out]; unfold Ft.tick; rw [if_neg (by omega)]
          subst hR2
          go_ret
          have m9 := hrg.out.owns
          rw [flF_end hl0] at m9
          exact ⟨rfl, ⟨_, tick_tab H.out q1 q2 Tr m9⟩, br⟩

        · intro x c kl y y2 We11 cnt1 hkey hlk hv hat hrg1 hlt hg1 hs1 hen
          have hy : y = .held c := by
            simp only [heldElem, Option.some.injEq, Prod.mk.injEq] at hv
            exact hv.1.symm
          have hhas : Maps.has (toDF (flF G now left)) kl = true := Maps.has_true_of_atKey hat
          rw [toDF_has] at hhas
          obtain ⟨f, hl⟩ := Option.isSome_iff_exists.1 hhas
          have hv2 : (toDF (flF G now left)).atKey kl (.held (.agg fl0.v)) = .held (.agg f.v) := by rw [toDF_at, hl]; rfl
          have hc : c = .agg f.v := by
            have h3 := (hat (.held (.agg fl0.v))).symm.trans hv2
            rw [hy] at h3
            injection h3
          subst hc
          have hfG : (kl, f) ∈ G := (List.mem_filter.1 (look_mem hl)).1
          have hkf := H.out.kf hfG
          have hkl : kl = keyW f.w := H.out.key _ hfG
          have hx : x = .agg f.w.v := keyWay.inj hkey (by rw [hkl]; exact key_way f.w hkf)
          subst hx
          have Te11 : Blk We11 tb 77 (tabV ⟨s.most, now, s.L⟩ mb) := (hg1.block tb Tr.lt (fun e => hrt (by injection e with e; first | exact e | exact e.symm))).trans Tr
          have be11 : But (fun k => k = tb ∨ k = mb) w We11 := br.grown hg1 (fun n hn => by cases hn; exact .inr grr)
          have HG1 : Hid (We11.ranges Try.prog 26 heldElem mb Wm7.heap.size G.length (toDF (flF G now left)) (fun z => left z && !z.sameKey kl) cnt1) := hrg1
          have HL : Hid (look kl (flF G now left) = some f) := hl
          have HKL : Hid (kl = keyW f.w) := hkl
          have HKF : Hid f.w.kf := hkf
          have HLT : Hid (cnt1 < cnt) := hlt
          have Qe11 : But (fun _ => False) We11 We11 := But.refl _ _
          clear hrg1 hl hkl hkf hlt hv hat hy hhas hv2 hfG hs1 hg1 br hkey hlk
          cases hq17 : (decide (f.ends ≤ now)) with
          | false =>
            obtain ⟨Wm18, hWm18⟩ : ∃ W, We11.alloc (.cells #[.int .i64 0, .int .i64 0, .int .i64 0, .int .u64 0, .int .u64 0, .int .i64 0, .int .u64 0, .int .u64 0, .int .i64 0, .int .i64 0] 26) = W := ⟨_, rfl⟩
            have bm18 := but_al be11 hWm18
            have Tm18 := Te11.al hWm18
            have Qm18 := Qe11.al hWm18
            have Am18 := blk_nw hWm18
            have gA : (fun k => k = tb ∨ k = mb) We11.heap.size ∨ w.heap.size ≤ We11.heap.size := .inr be11.size
            have nTA : tb ≠ We11.heap.size := by have := Te11.lt; omega
            have nAT : We11.heap.size ≠ tb := fun e => nTA e.symm
            have nQA : (fun _ => False) We11.heap.size ∨ We11.heap.size ≤ We11.heap.size := .inr Qe11.size
            obtain ⟨Wm19, hWm19⟩ : ∃ W, Wm18.alloc (.cells #[.int .i64 0, .int .i64 0, .int .i64 0, .int .u64 0, .int .u64 0, .int .i64 0, .int .u64 0, .int .u64 0, .int .i64 0, .int .i64 0, .int .i64 0, .int .u32 0, .int .u32 0, .int .u32 0, .int .u32 0, .bool false, .bool false, .bool false, .bool false, .int .i64 0, .int .i64 0, .bool false] 33) = W := ⟨_, rfl⟩
            have bm19 := but_al bm18 hWm19
            have Tm19 := Tm18.al hWm19
            have Qm19 := Qm18.al hWm19
            have Am19 := Am18.al hWm19
            have Bm19 := blk_nw hWm19
            have gB : (fun k => k = tb ∨ k = mb) Wm18.heap.size ∨ w.heap.size ≤ Wm18.heap.size := .inr bm18.size
            have nTB : tb ≠ Wm18.heap.size := by have := Tm18.lt; omega
            have nBT : Wm18.heap.size ≠ tb := fun e => nTB e.symm
            have nQB : (fun _ => False) Wm18.heap.size ∨ We11.heap.size ≤ Wm18.heap.size := .inr Qm18.size
            have nAB : We11.heap.size ≠ Wm18.heap.size := by have := Am18.lt; omega
            have nBA : Wm18.heap.size ≠ We11.heap.size := fun e => nAB e.symm
            obtain ⟨Wm20, hWm20⟩ : ∃ W, Wm19.setRow We11.heap.size f.w.v = W := ⟨_, rfl⟩
            have Am20 : Blk Wm20 We11.heap.size 26 f.w.v := hWm20 ▸ Am19.set f.w.v
            have Tm20 := hWm20 ▸ Tm19.other nTA f.w.v
            have Qm20 := hWm20 ▸ Qm19.other nQA f.w.v
            have Bm20 := hWm20 ▸ Bm19.other nBA f.w.v
            have bm20 := hWm20 ▸ but_setRow bm19 gA f.w.v
            obtain ⟨Wm21, hWm21⟩ : ∃ W, Wm20.setRow Wm18.heap.size f.v = W := ⟨_, rfl⟩
            have Bm21 : Blk Wm21 Wm18.heap.size 33 f.v := hWm21 ▸ Bm20.set f.v
            have Tm21 := hWm21 ▸ Tm20.other nTB f.v
            have Qm21 := hWm21 ▸ Qm20.other nQB f.v
            have Am21 := hWm21 ▸ Am20.other nAB f.v
            have bm21 := hWm21 ▸ but_setRow bm20 gB f.v
            have c22 := Bm21.cell 19 (.int .i64 f.ends) rfl
            go_wp2_with (first | (refine wpList_store_row rfl _ _ _ rfl We11.heap.size f.w.v (by rfl) (by rfl) _ _ Am19 (by kernel_rfl) (by rfl) (by kernel_rfl) ?_; rw [hWm20]) | (refine wpList_store_row rfl _ _ _ rfl Wm18.heap.size f.v (by rfl) (by rfl) _ _ Bm20 (by kernel_rfl) (by rfl) (by kernel_rfl) ?_; rw [hWm21]))
            refine ⟨⟨fun z => left z && !z.sameKey kl, cnt1, ?_, Tm21, bm21⟩, ?_⟩
            · have e8 : flF G now (fun z => left z && !z.sameKey kl) = flF G now left := flF_stay H.out.keys HL.out (by have : decide (f.ends ≤ now) = false := by assumption
                                                                                                                        simpa using this)
              rw [e8]; exact ranges_but HG1.out Qm21 (fun x => x) (fun x => x)
            · rw [(ranges_but HG1.out Qm21 (fun x => x) (fun x => x)).left_eq, hrg.out.left_eq]; exact HLT.out

          | true =>
            obtain ⟨Wm23, hWm23⟩ : ∃ W, We11.alloc (.cells #[.int .i64 0, .int .i64 0, .int .i64 0, .int .u64 0, .int .u64 0, .int .i64 0, .int .u64 0, .int .u64 0, .int .i64 0, .int .i64 0] 26) = W := ⟨_, rfl⟩
            have bm23 := but_al be11 hWm23
            have Tm23 := Te11.al hWm23
            have Qm23 := Qe11.al hWm23
            have Am23 := blk_nw hWm23
            have gA : (fun k => k = tb ∨ k = mb) We11.heap.size ∨ w.heap.size ≤ We11.heap.size := .inr be11.size
            have nTA : tb ≠ We11.heap.size := by have := Te11.lt; omega
            have nAT : We11.heap.size ≠ tb := fun e => nTA e.symm
            have nQA : (fun _ => False) We11.heap.size ∨ We11.heap.size ≤ We11.heap.size := .inr Qe11.size
            obtain ⟨Wm24, hWm24⟩ : ∃ W, Wm23.alloc (.cells #[.int .i64 0, .int .i64 0, .int .i64 0, .int .u64 0, .int .u64 0, .int .i64 0, .int .u64 0, .int .u64 0, .int .i64 0, .int .i64 0, .int .i64 0, .int .u32 0, .int .u32 0, .int .u32 0, .int .u32 0, .bool false, .bool false, .bool false, .bool false, .int .i64 0, .int .i64 0, .bool false] 33) = W := ⟨_, rfl⟩
            have bm24 := but_al bm23 hWm24
            have Tm24 := Tm23.al hWm24
            have Qm24 := Qm23.al hWm24
            have Am24 := Am23.al hWm24
            have Bm24 := blk_nw hWm24
            have gB : (fun k => k = tb ∨ k = mb) Wm23.heap.size ∨ w.heap.size ≤ Wm23.heap.size := .inr bm23.size
            have nTB : tb ≠ Wm23.heap.size := by have := Tm23.lt; omega
            have nBT : Wm23.heap.size ≠ tb := fun e => nTB e.symm
            have nQB : (fun _ => False) Wm23.heap.size ∨ We11.heap.size ≤ Wm23.heap.size := .inr Qm23.size
            have nAB : We11.heap.size ≠ Wm23.heap.size := by have := Am23.lt; omega
            have nBA : Wm23.heap.size ≠ We11.heap.size := fun e => nAB e.symm
            obtain ⟨Wm25, hWm25⟩ : ∃ W, Wm24.setRow We11.heap.size f.w.v = W := ⟨_, rfl⟩
            have Am25 : Blk Wm25 We11.heap.size 26 f.w.v := hWm25 ▸ Am24.set f.w.v
            have Tm25 := hWm25 ▸ Tm24.other nTA f.w.v
            have Qm25 := hWm25 ▸ Qm24.other nQA f.w.v
            have Bm25 := hWm25 ▸ Bm24.other nBA f.w.v
            have bm25 := hWm25 ▸ but_setRow bm24 gA f.w.v
            obtain ⟨Wm26, hWm26⟩ : ∃ W, Wm25.setRow Wm23.heap.size f.v = W := ⟨_, rfl⟩
            have Bm26 : Blk Wm26 Wm23.heap.size 33 f.v := hWm26 ▸ Bm25.set f.v
            have Tm26 := hWm26 ▸ Tm25.other nTB f.v
            have Qm26 := hWm26 ▸ Qm25.other nQB f.v
            have Am26 := hWm26 ▸ Am25.other nAB f.v
            have bm26 := hWm26 ▸ but_setRow bm25 gB f.v
            have c27 := Bm26.cell 19 (.int .i64 f.ends) rfl
            go_wp2_with (first | (refine wpList_store_row rfl _ _ _ rfl We11.heap.size f.w.v (by rfl) (by rfl) _ _ Am24 (by kernel_rfl) (by rfl) (by kernel_rfl) ?_; rw [hWm25]) | (refine wpList_store_row rfl _ _ _ rfl Wm23.heap.size f.v (by rfl) (by rfl) _ _ Bm25 (by kernel_rfl) (by rfl) (by kernel_rfl) ?_; rw [hWm26]))
            clear c27
            obtain ⟨Wdq28, hWdq28⟩ : ∃ W, Wm26.drew = W := ⟨_, rfl⟩
            have Tdq28 := hWdq28 ▸ Tm26.drew
            have Qdq28 := hWdq28 ▸ Qm26.drew
            have Adq28 := hWdq28 ▸ Am26.drew
            have Bdq28 := hWdq28 ▸ Bm26.drew
            have bdq28 := hWdq28 ▸ bm26.drew
            refine wp_region_noPanic ?_
            refine wp_region_held_drew (S := fun w' => Blk w' tb 77 (tabV ⟨s.most, now, s.L⟩ mb) ∧ Blk w' We11.heap.size 26 f.w.v ∧ Blk w' Wm23.heap.size 33 f.v) (by kernel_rfl) (by rw [hWdq28]; exact ⟨Tdq28, Adq28, Bdq28⟩) (fun hHeld => ?_)
            rw [hWdq28] at hHeld ⊢
            refine qtk (i := 0) (oi := { dst := some 40, op := Op.move (.tmp 0), type := 50, pos := "table.go:83", after := #[], guard := none }) (v := (.pointer (some ⟨tb, 0, none⟩))) hHeld ?_ ?_
            · intro w9 hSw
              try dsimp only at hSw
              go_simp
            try simp only [qpu]
            refine qtk (i := 1) (oi := { dst := some 41, op := Op.nilCheck (.tmp 40), type := 0, pos := "table.go:83", after := #[{ on := 0, ground := Ground.data }], guard := none }) (v := (.pointer (some ⟨tb, 0, none⟩))) hHeld ?_ ?_
            · intro w9 hSw
              try dsimp only at hSw
              go_simp
            try simp only [qpu]
            refine qtk (i := 2) (oi := { dst := some 42, op := Op.fieldAddr 77 (.tmp 41) 3, type := 0, pos := "table.go:83", after := #[{ on := 1, ground := Ground.data }], guard := none }) (v := (.pointer (some ⟨tb, 3, none⟩))) hHeld ?_ ?_
            · intro w9 hSw
              try dsimp only at hSw
              go_simp
            try simp only [qpu]
            refine qtk (i := 3) (oi := { dst := some 43, op := Op.load 75 (.tmp 42), type := 75, pos := "table.go:83", after := #[{ on := 2, ground := Ground.data }], guard := none }) (v := (.map (some mb))) hHeld ?_ ?_
            · intro w9 hSw
              try dsimp only at hSw
              have hcc := hSw.1.cell 3 (.map (some mb)) rfl
              go_simp
            try simp only [qpu]
            refine qty (i := 4) (oi := { dst := some 44, op := Op.load 26 (.tmp 5), type := 26, pos := "table.go:83", after := #[], guard := none }) (v := (.agg f.w.v)) (yieldsIf_blk_w (by kernel_rfl) _ _ rfl We11.heap.size (by rfl) _ (fun _ hSw => hSw.2.1) Try.underlying26 (by kernel_rfl)) hHeld ?_
            try simp only [qpu]
            refine wpAnyH_ready (rs := [5]) (by kernel_rfl) (by simp) ?_
            refine AllReadyH.cons (o := { dst := none, op := Op.call { callee := Callee.builtin Builtin.delete, args := #[.tmp 43, .tmp 44], argTypes := #[75, 26] }, type := 0, pos := "table.go:83", after := #[{ on := 3, ground := Ground.data }, { on := 4, ground := Ground.data }], guard := none }) rfl (fun K hK => ?_) AllReadyH.nil
            have RQ := ranges_but HG1.out Qdq28 (fun x => x) (fun x => x)
            refine step_delete_rngF rfl _ _ rfl mb Wm7.heap.size G.length _ _ cnt1 f.w kl HKL.out (by rfl) (by rfl) RQ HKF.out ?_
            intro Wx29 cnt2 rgx29 lex29 tx29
            have Tx29 := Tdq28.turned tx29 nTM
            have Ax29 := Adq28.turned tx29 (by have h1 := M.lt; have h2 := be11.size; omega)
            have Bx29 := Bdq28.turned tx29 (by have h1 := M.lt; have h2 := bm23.size; omega)
            have bx29 := bdq28.turned tx29 (.inl (.inr rfl))
            refine hK.out _ _ (by exact ⟨Tx29, Ax29, Bx29⟩) (fun hHeld => ?_)
            clear hK K
            try simp only [qpu]
            refine wpAnyH_done (by kernel_rfl) ?_ _
            refine NoPanic.normal ?_
            go_wp2_with fail
            refine ⟨⟨fun z => left z && !z.sameKey kl, cnt2, ?_, Tx29, bx29⟩, ?_⟩
            · have e8 : flF G now (fun z => left z && !z.sameKey kl) = strike kl (flF G now left) := flF_drop H.out.keys HL.out (by have : decide (f.ends ≤ now) = true := by assumption
                                                                                                                                    simpa using this)
              have rg2 := rgx29
              rw [Maps.strike_twice, toDF_del] at rg2
              rw [e8]; exact rg2
            · rw [rgx29.left_eq, hrg.out.left_eq]; exact Nat.lt_of_le_of_lt lex29 HLT.out


    | true =>
      have c30 := Tm1.cell 2 (.int .i64 s.now) rfl
      go_wp2_with fail
      have hR2 : R = (s, 25) := by rw [← HR.out]; unfold Ft.tick; rw [if_pos (by first | (left; simpa using (by assumption : decide (now < s.now) = true)) | (right; simpa using (by assumption : decide (4611686018427387904 < now) = true)))]
      subst hR2
      go_ret
      exact ⟨rfl, ⟨_, H.out.same Tm1 Mm1⟩, bm1⟩


  | true =>
    have c31 := Tm1.cell 2 (.int .i64 s.now) rfl
    go_wp2_with fail
    have hR2 : R = (s, 25) := by rw [← HR.out]; unfold Ft.tick; rw [if_pos (by first | (left; simpa using (by assumption : decide (now < s.now) = true)) | (right; simpa using (by assumption : decide (4611686018427387904 < now) = true)))]
    subst hR2
    go_ret
    exact ⟨rfl, ⟨_, H.out.same Tm1 Mm1⟩, bm1⟩
end Go.Proofs.Ytmjjdbkipagkbaa
