/- Texts joined: FwP FwQ FwR FwS FwT FwU -/
import Derived.Test.YtfiembbmgdmagaaFxb10
import Derived.Maps.RangeWalk
import Derived.WalkKit
import Derived.Test.YtfiembbmgdmagaaShelf
import Derived.Deep.AppendLies
import Derived.Sort.OwnSortedInts
import Derived.OwnWalk
namespace Go.Proofs.Ytfiembbmgdmagaa
open Go.RowKit
set_option linter.unusedVariables false
set_option linter.unusedSimpArgs false
theorem ranges_but {w w' : World} {b r n : Nat} {D : DataW Value} {left : Lit → Bool} {cnt : Nat} (h : w.ranges Try.prog 26 heldElem b r n D left cnt) {F : Nat → Prop} (k : But F w w') (hb : ¬ F b) (hr : ¬ F r) : w'.ranges Try.prog 26 heldElem b r n D left cnt := by
  have h1 := h.owns.lt
  have h2 := h.lt
  obtain ⟨es, clock, since, seen, c0, hb', F', hs, hD, hr', rest⟩ := h
  exact ⟨es, clock, since, seen, c0, (k.block b h1 hb).trans hb', F', hs, hD, (k.block r h2 hr).trans hr', rest⟩
theorem But.al {F : Nat → Prop} {w W W' : World} {o : Obj} (h : But F w W) (e : W.alloc o = W') : But F w W' := but_al h e
theorem But.kept {F : Nat → Prop} {w W W' : World} (h : But F w W) (b : Below W.heap.size W W') : But F w W' := h.below b
theorem But.other {F : Nat → Prop} {w W : World} (h : But F w W) {g : Nat} (hg : F g ∨ w.heap.size ≤ g) (cs : Array Value) : But F w (W.setRow g cs) := h.setRow g hg cs
theorem But.put_other {F : Nat → Prop} {w W : World} {g : Nat} {t : TypeId} {cs : Array Value} (h : But F w W) (_ : Blk W g t cs) (hg : F g ∨ w.heap.size ≤ g) (i : Nat) (v : Value) : But F w (W.setCell ⟨g, i, none⟩ v) := h.setCell g i hg v
/-- What is still to come, or stays. -/
def flF (G : List (Lit × Fl)) (now : Int) (left : Lit → Bool) : List (Lit × Fl) := G.filter fun p => left p.1 || decide (now < p.2.ends)
theorem flF_start {G : List (Lit × Fl)} (now : Int) (hk : ∀ p ∈ G, p.1 = keyW p.2.w) : flF G now (Maps.has (toDF G)) = G := by
  unfold flF
  refine List.filter_eq_self.2 (fun p hp => ?_)
  have : Maps.has (toDF G) p.1 = true := by
    rw [Maps.has_eq]
    exact List.any_eq_true.2 ⟨(p.1, .held (.agg p.2.v)), List.mem_map.2 ⟨p, hp, rfl⟩, WideAt.sameKey_self (by rw [hk p hp]; exact keyLit_way _)⟩
  simp [this]
theorem flF_end {G : List (Lit × Fl)} {now : Int} {left : Lit → Bool} (h : ∀ k, left k = false) : flF G now left = G.filter fun p => decide (now < p.2.ends) := by
  unfold flF
  congr 1
  funext p
  simp [h]
theorem keys_at {G : List (Lit × Fl)} (hK : Keys G) {p q : Lit × Fl} (hp : p ∈ G) (hq : q ∈ G) (e : p.1 = q.1) : p = q := by
  induction G with
  | nil => cases hp
  | cons y r ih =>
    obtain ⟨h1, h2⟩ := List.pairwise_cons.1 hK
    rcases List.mem_cons.1 hp with rfl | hp'
    · rcases List.mem_cons.1 hq with rfl | hq'
      · rfl
      · exact absurd e (h1 q hq')
    · rcases List.mem_cons.1 hq with rfl | hq'
      · exact absurd e.symm (h1 p hp')
      · exact ih h2 hp' hq'
theorem flF_stay {G : List (Lit × Fl)} {now : Int} {left : Lit → Bool} {k : Lit} {g : Fl} (hK : Keys G) (hl : look k (flF G now left) = some g) (ht : now < g.ends) : flF G now (fun z => left z && !z.sameKey k) = flF G now left := by
  have hm := look_mem hl
  unfold flF at hm ⊢
  have hg := (List.mem_filter.1 hm).1
  refine List.filter_congr (fun p hp => ?_)
  cases hs : p.1.sameKey k
  · simp [hs]
  · have e : p.1 = k := WideAt.sameKey_eq hs
    have : p = (k, g) := keys_at hK hp hg e
    subst this
    simp [ht]
theorem flF_drop {G : List (Lit × Fl)} {now : Int} {left : Lit → Bool} {k : Lit} {g : Fl} (hK : Keys G) (hl : look k (flF G now left) = some g) (ht : ¬ now < g.ends) : flF G now (fun z => left z && !z.sameKey k) = strike k (flF G now left) := by
  have hm := look_mem hl
  unfold flF at hm
  have hg := (List.mem_filter.1 hm).1
  unfold strike flF
  rw [List.filter_filter]
  refine List.filter_congr (fun p hp => ?_)
  cases hs : p.1.sameKey k
  · simp [hs]
  · have e : p.1 = k := WideAt.sameKey_eq hs
    have : p = (k, g) := keys_at hK hp hg e
    subst this
    have hs' : k.sameKey k = true := hs
    simp [ht, hs']
theorem tick_tab {w w' : World} {tb mb : Nat} {s : Ft} {G : List (Lit × Fl)} {now : Int} (h : TabF w tb mb s G) (h1 : ¬ now < s.now) (h2 : ¬ now > 4611686018427387904) (T : Blk w' tb 77 (tabV ⟨s.most, now, s.L⟩ mb)) {n : Nat} (M : OwnsF w' mb n (toDF (G.filter fun p => decide (now < p.2.ends)))) : TabF w' tb mb ⟨s.most, now, keepF now s.L⟩ (G.filter fun p => decide (now < p.2.ends)) := by
  have hn := h.ok.now
  refine ⟨T, ⟨ownF_tight M⟩, h.ne, h.ok.filter _ now (by omega) (fun f _ hd => by simpa using hd), h.keys.filter _, fun p hp => h.key p (List.mem_filter.1 hp).1, ?_⟩
  have e : (G.filter fun p => decide (now < p.2.ends)).map (·.2) = (G.map (·.2)).filter fun f => decide (now < f.ends) := by
    rw [List.filter_map]; rfl
  rw [e]
  exact h.perm.filter _
set_option maxRecDepth 100000 in
theorem step_delete_rngF {ops : Array Oper} {o : Oper} {ac : Act} {K : Act → World → Prop} {Q : Exit → Act → World → Prop} {Z : Prop} {w : World} (hgd : o.guard = none) (m x : Operand) (ho : o.op = Op.call { callee := Callee.builtin Builtin.delete, args := #[m, x], argTypes := #[75, 26] })
    (b r n : Nat) (D : DataW Value) (left : Lit → Bool) (cnt : Nat) (q : Wy) (kl : Lit) (hkl : kl = keyW q) (hm : ac.eval m = .map (some b)) (hx : ac.eval x = .agg q.v) (hS : w.ranges Try.prog 26 heldElem b r n D left cnt) (hk : q.kf)
    (h : ∀ w' cnt', w'.ranges Try.prog 26 heldElem b r n (D.del kl) (fun z => left z && !z.sameKey kl) cnt' → cnt' ≤ cnt → w.mapTurned w' b → K (ac.put o.dst (.tuple #[])) w') :
    if Region.wanted o (yielded ops ac.tmps) = true then Oper.wp Try.prog o ac w K Q else Z := by
  have hw : Region.wanted o (yielded ops ac.tmps) = true := by simp [Region.wanted, hgd]
  rw [if_pos hw]
  have hkey : keyOf Try.prog 26 (.agg q.v) = some kl := by rw [hkl]; exact key_way q hk
  obtain ⟨w', cnt', h1, h2, h3, h4⟩ := hS.drop keyWay Try.underlying75 hkey o.type
  unfold Oper.wp execOp
  simp only [ho, resolve, invoke, builtin, Sem.run_bind, Sem.run_pure, Result.andThen_ok, List.map_toArray, List.map_cons, List.map_nil, hm, hx, h1]
  exact h w' cnt' h2 h3 h4
set_option maxRecDepth 100000 in
set_option maxHeartbeats 16000000 in
theorem tick_at_fw (tb mb : Nat) (s : Ft) (G : List (Lit × Fl)) (now : Int) (w : World) (H0 : TabF w tb mb s G) :
    Calls Try.prog 24 #[.pointer (some ⟨tb, 0, none⟩), .int .i64 now] w fun e w' => e = .returned (.int .i64 (s.tick now).2) ∧ (∃ G', TabF w' tb mb (s.tick now).1 G') ∧ But (fun k => k = tb ∨ k = mb) w w' := by
  have nTM : tb ≠ mb := H0.ne
  have T := H0.tab
  have M := H0.map
  have H : Hid (TabF w tb mb s G) := H0
  clear H0
  have gT : (fun k => k = tb ∨ k = mb) tb ∨ w.heap.size ≤ tb := .inl (.inl rfl)
  have nMT : mb ≠ tb := fun e => nTM e.symm
  obtain ⟨R, hR⟩ : ∃ R, s.tick now = R := ⟨_, rfl⟩
  have HR : Hid (s.tick now = R) := hR
  try rw [hR]
  clear hR
  have b := But.refl (fun k => k = tb ∨ k = mb) w
  go_enter Try.func24, Try.ntmps24
  go_wp2_with fail
  refine Calls.mono (made_at tb mb s _ T) ?_
  rintro e Wm1 ⟨rfl, bb⟩
  have Tm1 := T.kept bb
  have Mm1 := M.kept bb
  have bm1 := b.below bb
  clear bb
  cases hq3 : (decide (now < s.now)) with
  | false =>
    cases hq5 : (decide (4611686018427387904 < now)) with
    | false =>
      have c6 := Tm1.cell 2 (.int .i64 s.now) rfl
      have y8 := Tm1.cell 2 (.int .i64 s.now) rfl
      have z9 := Tm1.frozen 2
      obtain ⟨Wm7, hWm7⟩ : ∃ W, Wm1.setCell ⟨tb, 2, none⟩ (.int .i64 now) = W := ⟨_, rfl⟩
      have Tm7 : Blk Wm7 tb 77 (tabV ⟨s.most, now, s.L⟩ mb) := hWm7 ▸ Tm1.put 2 (.int .i64 now)
      have Mm7 := hWm7 ▸ Mm1.put_other Tm1 nMT 2 (.int .i64 now)
      have bm7 := hWm7 ▸ bm1.setCell tb 2 (.inl (.inl rfl)) (.int .i64 now)
      have c10 := Tm7.cell 3 (.map (some mb)) rfl
      go_wp2_with (at_range; refine wpList_range_own _ rfl _ 75 rfl 26 33 keyWay Try.underlying75 heldElem mb G.length (toDF G) (by rfl) Mm7.own ?_; intro w0 hrg0 hg0 hs0)
      try go_frame
      have grr : w.heap.size ≤ Wm7.heap.size := bm7.size
      have hrt : Wm7.heap.size ≠ tb := by have := T.lt; omega
      go_loopw [] (fun wr => ∃ left cnt, Hid (wr.ranges Try.prog 26 heldElem mb Wm7.heap.size G.length (toDF (flF G now left)) left cnt) ∧ Blk wr tb 77 (tabV ⟨s.most, now, s.L⟩ mb) ∧ But (fun k => k = tb ∨ k = mb) w wr) (fun wr => wr.rangeLeft mb Wm7.heap.size)
      case atStart =>
        refine ⟨Maps.has (toDF G), Maps.size (toDF G), ?_, ?_, ?_⟩
        · rw [flF_start now H.out.key]; exact hrg0
        · exact (hg0.block tb Tm7.lt (by simp)).trans Tm7
        · exact bm7.grown hg0 (fun n hn => by cases hn)
      case round =>
        obtain ⟨left, cnt, hrg, Tr, br⟩ := hrel
        clear hrg0 hg0 hs0
        obtain ⟨Wr, rfl⟩ : ∃ W, W = wr := ⟨_, rfl⟩
        go_wp2_with (at_next; refine wpList_next_ranges _ rfl _ rfl 26 keyWay heldElem (fun v : Value => v) (fun v : Value => v) (fun key kl hk => ⟨key, rfl⟩) (fun v y _ => ⟨v, rfl⟩) mb Wm7.heap.size G.length _ _ _ (by rfl) hrg.out ?_ ?_)
        · intro hc0 hl0
          go_wp2_with fail
          have q1 : ¬ now < s.now := by simpa using (by assumption : decide (now < s.now) = false)
          have q2 : ¬ now > 4611686018427387904 := by simpa using (by assumption : decide (4611686018427387904 < now) = false)
          have hR2 : R = (⟨s.most, now, keepF now s.L⟩, 0) := by rw [← HR.out]; unfold Ft.tick; rw [if_neg (by omega)]
          subst hR2
          go_ret
          have m9 := hrg.out.owns
          rw [flF_end hl0] at m9
          exact ⟨rfl, ⟨_, tick_tab H.out q1 q2 Tr m9⟩, br⟩

        · intro x c kl y y2 We11 cnt1 hkey hlk hv hat hrg1 hlt hg1 hs1 hen
          have hy : y = .held c := by
            simp only [heldElem, Option.some.injEq, Prod.mk.injEq] at hv
            exact hv.1.symm
          have hhas : Maps.has (toDF (flF G now left)) kl = true := Maps.has_true_of_atKey hat
          rw [toDF_has] at hhas
          obtain ⟨f, hl⟩ := Option.isSome_iff_exists.1 hhas
          have hv2 : (toDF (flF G now left)).atKey kl (.held (.agg fl0.v)) = .held (.agg f.v) := by rw [toDF_at, hl]; rfl
          have hc : c = .agg f.v := by
            have h3 := (hat (.held (.agg fl0.v))).symm.trans hv2
            rw [hy] at h3
            injection h3
          subst hc
          have hfG : (kl, f) ∈ G := (List.mem_filter.1 (look_mem hl)).1
          have hkf := H.out.kf hfG
          have hkl : kl = keyW f.w := H.out.key _ hfG
          have hx : x = .agg f.w.v := keyWay.inj hkey (by rw [hkl]; exact key_way f.w hkf)
          subst hx
          have Te11 : Blk We11 tb 77 (tabV ⟨s.most, now, s.L⟩ mb) := (hg1.block tb Tr.lt (fun e => hrt (by injection e with e; first | exact e | exact e.symm))).trans Tr
          have be11 : But (fun k => k = tb ∨ k = mb) w We11 := br.grown hg1 (fun n hn => by cases hn; exact .inr grr)
          have HG1 : Hid (We11.ranges Try.prog 26 heldElem mb Wm7.heap.size G.length (toDF (flF G now left)) (fun z => left z && !z.sameKey kl) cnt1) := hrg1
          have HL : Hid (look kl (flF G now left) = some f) := hl
          have HKL : Hid (kl = keyW f.w) := hkl
          have HKF : Hid f.w.kf := hkf
          have HLT : Hid (cnt1 < cnt) := hlt
          have Qe11 : But (fun _ => False) We11 We11 := But.refl _ _
          clear hrg1 hl hkl hkf hlt hv hat hy hhas hv2 hfG hs1 hg1 br hkey hlk
          cases hq17 : (decide (f.ends ≤ now)) with
          | false =>
            obtain ⟨Wm18, hWm18⟩ : ∃ W, We11.alloc (.cells #[.int .i64 0, .int .i64 0, .int .i64 0, .int .u64 0, .int .u64 0, .int .i64 0, .int .u64 0, .int .u64 0, .int .i64 0, .int .i64 0] 26) = W := ⟨_, rfl⟩
            have bm18 := but_al be11 hWm18
            have Tm18 := Te11.al hWm18
            have Qm18 := Qe11.al hWm18
            have Am18 := blk_nw hWm18
            have gA : (fun k => k = tb ∨ k = mb) We11.heap.size ∨ w.heap.size ≤ We11.heap.size := .inr be11.size
            have nTA : tb ≠ We11.heap.size := by have := Te11.lt; omega
            have nAT : We11.heap.size ≠ tb := fun e => nTA e.symm
            have nQA : (fun _ => False) We11.heap.size ∨ We11.heap.size ≤ We11.heap.size := .inr Qe11.size
            obtain ⟨Wm19, hWm19⟩ : ∃ W, Wm18.alloc (.cells #[.int .i64 0, .int .i64 0, .int .i64 0, .int .u64 0, .int .u64 0, .int .i64 0, .int .u64 0, .int .u64 0, .int .i64 0, .int .i64 0, .int .i64 0, .int .u32 0, .int .u32 0, .int .u32 0, .int .u32 0, .bool false, .bool false, .bool false, .bool false, .int .i64 0, .int .i64 0, .bool false] 33) = W := ⟨_, rfl⟩
            have bm19 := but_al bm18 hWm19
            have Tm19 := Tm18.al hWm19
            have Qm19 := Qm18.al hWm19
            have Am19 := Am18.al hWm19
            have Bm19 := blk_nw hWm19
            have gB : (fun k => k = tb ∨ k = mb) Wm18.heap.size ∨ w.heap.size ≤ Wm18.heap.size := .inr bm18.size
            have nTB : tb ≠ Wm18.heap.size := by have := Tm18.lt; omega
            have nBT : Wm18.heap.size ≠ tb := fun e => nTB e.symm
            have nQB : (fun _ => False) Wm18.heap.size ∨ We11.heap.size ≤ Wm18.heap.size := .inr Qm18.size
            have nAB : We11.heap.size ≠ Wm18.heap.size := by have := Am18.lt; omega
            have nBA : Wm18.heap.size ≠ We11.heap.size := fun e => nAB e.symm
            obtain ⟨Wm20, hWm20⟩ : ∃ W, Wm19.setRow We11.heap.size f.w.v = W := ⟨_, rfl⟩
            have Am20 : Blk Wm20 We11.heap.size 26 f.w.v := hWm20 ▸ Am19.set f.w.v
            have Tm20 := hWm20 ▸ Tm19.other nTA f.w.v
            have Qm20 := hWm20 ▸ Qm19.other nQA f.w.v
            have Bm20 := hWm20 ▸ Bm19.other nBA f.w.v
            have bm20 := hWm20 ▸ but_setRow bm19 gA f.w.v
            obtain ⟨Wm21, hWm21⟩ : ∃ W, Wm20.setRow Wm18.heap.size f.v = W := ⟨_, rfl⟩
            have Bm21 : Blk Wm21 Wm18.heap.size 33 f.v := hWm21 ▸ Bm20.set f.v
            have Tm21 := hWm21 ▸ Tm20.other nTB f.v
            have Qm21 := hWm21 ▸ Qm20.other nQB f.v
            have Am21 := hWm21 ▸ Am20.other nAB f.v
            have bm21 := hWm21 ▸ but_setRow bm20 gB f.v
            have c22 := Bm21.cell 19 (.int .i64 f.ends) rfl
            go_wp2_with (first | (refine wpList_store_row rfl _ _ _ rfl We11.heap.size f.w.v (by rfl) (by rfl) _ _ Am19 (by kernel_rfl) (by rfl) (by kernel_rfl) ?_; rw [hWm20]) | (refine wpList_store_row rfl _ _ _ rfl Wm18.heap.size f.v (by rfl) (by rfl) _ _ Bm20 (by kernel_rfl) (by rfl) (by kernel_rfl) ?_; rw [hWm21]))
            refine ⟨⟨fun z => left z && !z.sameKey kl, cnt1, ?_, Tm21, bm21⟩, ?_⟩
            · have e8 : flF G now (fun z => left z && !z.sameKey kl) = flF G now left := flF_stay H.out.keys HL.out (by have : decide (f.ends ≤ now) = false := by assumption
                                                                                                                        simpa using this)
              rw [e8]; exact ranges_but HG1.out Qm21 (fun x => x) (fun x => x)
            · rw [(ranges_but HG1.out Qm21 (fun x => x) (fun x => x)).left_eq, hrg.out.left_eq]; exact HLT.out

          | true =>
            obtain ⟨Wm23, hWm23⟩ : ∃ W, We11.alloc (.cells #[.int .i64 0, .int .i64 0, .int .i64 0, .int .u64 0, .int .u64 0, .int .i64 0, .int .u64 0, .int .u64 0, .int .i64 0, .int .i64 0] 26) = W := ⟨_, rfl⟩
            have bm23 := but_al be11 hWm23
            have Tm23 := Te11.al hWm23
            have Qm23 := Qe11.al hWm23
            have Am23 := blk_nw hWm23
            have gA : (fun k => k = tb ∨ k = mb) We11.heap.size ∨ w.heap.size ≤ We11.heap.size := .inr be11.size
            have nTA : tb ≠ We11.heap.size := by have := Te11.lt; omega
            have nAT : We11.heap.size ≠ tb := fun e => nTA e.symm
            have nQA : (fun _ => False) We11.heap.size ∨ We11.heap.size ≤ We11.heap.size := .inr Qe11.size
            obtain ⟨Wm24, hWm24⟩ : ∃ W, Wm23.alloc (.cells #[.int .i64 0, .int .i64 0, .int .i64 0, .int .u64 0, .int .u64 0, .int .i64 0, .int .u64 0, .int .u64 0, .int .i64 0, .int .i64 0, .int .i64 0, .int .u32 0, .int .u32 0, .int .u32 0, .int .u32 0, .bool false, .bool false, .bool false, .bool false, .int .i64 0, .int .i64 0, .bool false] 33) = W := ⟨_, rfl⟩
            have bm24 := but_al bm23 hWm24
            have Tm24 := Tm23.al hWm24
            have Qm24 := Qm23.al hWm24
            have Am24 := Am23.al hWm24
            have Bm24 := blk_nw hWm24
            have gB : (fun k => k = tb ∨ k = mb) Wm23.heap.size ∨ w.heap.size ≤ Wm23.heap.size := .inr bm23.size
            have nTB : tb ≠ Wm23.heap.size := by have := Tm23.lt; omega
            have nBT : Wm23.heap.size ≠ tb := fun e => nTB e.symm
            have nQB : (fun _ => False) Wm23.heap.size ∨ We11.heap.size ≤ Wm23.heap.size := .inr Qm23.size
            have nAB : We11.heap.size ≠ Wm23.heap.size := by have := Am23.lt; omega
            have nBA : Wm23.heap.size ≠ We11.heap.size := fun e => nAB e.symm
            obtain ⟨Wm25, hWm25⟩ : ∃ W, Wm24.setRow We11.heap.size f.w.v = W := ⟨_, rfl⟩
            have Am25 : Blk Wm25 We11.heap.size 26 f.w.v := hWm25 ▸ Am24.set f.w.v
            have Tm25 := hWm25 ▸ Tm24.other nTA f.w.v
            have Qm25 := hWm25 ▸ Qm24.other nQA f.w.v
            have Bm25 := hWm25 ▸ Bm24.other nBA f.w.v
            have bm25 := hWm25 ▸ but_setRow bm24 gA f.w.v
            obtain ⟨Wm26, hWm26⟩ : ∃ W, Wm25.setRow Wm23.heap.size f.v = W := ⟨_, rfl⟩
            have Bm26 : Blk Wm26 Wm23.heap.size 33 f.v := hWm26 ▸ Bm25.set f.v
            have Tm26 := hWm26 ▸ Tm25.other nTB f.v
            have Qm26 := hWm26 ▸ Qm25.other nQB f.v
            have Am26 := hWm26 ▸ Am25.other nAB f.v
            have bm26 := hWm26 ▸ but_setRow bm25 gB f.v
            have c27 := Bm26.cell 19 (.int .i64 f.ends) rfl
            go_wp2_with (first | (refine wpList_store_row rfl _ _ _ rfl We11.heap.size f.w.v (by rfl) (by rfl) _ _ Am24 (by kernel_rfl) (by rfl) (by kernel_rfl) ?_; rw [hWm25]) | (refine wpList_store_row rfl _ _ _ rfl Wm23.heap.size f.v (by rfl) (by rfl) _ _ Bm25 (by kernel_rfl) (by rfl) (by kernel_rfl) ?_; rw [hWm26]))
            clear c27
            obtain ⟨Wdq28, hWdq28⟩ : ∃ W, Wm26.drew = W := ⟨_, rfl⟩
            have Tdq28 := hWdq28 ▸ Tm26.drew
            have Qdq28 := hWdq28 ▸ Qm26.drew
            have Adq28 := hWdq28 ▸ Am26.drew
            have Bdq28 := hWdq28 ▸ Bm26.drew
            have bdq28 := hWdq28 ▸ bm26.drew
            refine wp_region_noPanic ?_
            refine wp_region_held_drew (S := fun w' => Blk w' tb 77 (tabV ⟨s.most, now, s.L⟩ mb) ∧ Blk w' We11.heap.size 26 f.w.v ∧ Blk w' Wm23.heap.size 33 f.v) (by kernel_rfl) (by rw [hWdq28]; exact ⟨Tdq28, Adq28, Bdq28⟩) (fun hHeld => ?_)
            rw [hWdq28] at hHeld ⊢
            refine wpAnyH_take (i := 0) (oi := { dst := some 40, op := Op.move (.tmp 0), type := 50, pos := "table.go:83", after := #[], guard := none }) (v := (.pointer (some ⟨tb, 0, none⟩))) rfl (by kernel_rfl) (by kernel_rfl) (by kernel_rfl) (fun _ _ _ h => h) (Or.inl ⟨by rfl, ?_⟩) hHeld ?_
            · intro w9 hSw
              try dsimp only at hSw
              go_simp
            try simp only [Act.put, List.setIfInBounds_toArray, List.set_cons_zero, List.set_cons_succ]
            refine wpAnyH_take (i := 1) (oi := { dst := some 41, op := Op.nilCheck (.tmp 40), type := 0, pos := "table.go:83", after := #[{ on := 0, ground := Ground.data }], guard := none }) (v := (.pointer (some ⟨tb, 0, none⟩))) rfl (by kernel_rfl) (by kernel_rfl) (by kernel_rfl) (fun _ _ _ h => h) (Or.inl ⟨by rfl, ?_⟩) hHeld ?_
            · intro w9 hSw
              try dsimp only at hSw
              go_simp
            try simp only [Act.put, List.setIfInBounds_toArray, List.set_cons_zero, List.set_cons_succ]
            refine wpAnyH_take (i := 2) (oi := { dst := some 42, op := Op.fieldAddr 77 (.tmp 41) 3, type := 0, pos := "table.go:83", after := #[{ on := 1, ground := Ground.data }], guard := none }) (v := (.pointer (some ⟨tb, 3, none⟩))) rfl (by kernel_rfl) (by kernel_rfl) (by kernel_rfl) (fun _ _ _ h => h) (Or.inl ⟨by rfl, ?_⟩) hHeld ?_
            · intro w9 hSw
              try dsimp only at hSw
              go_simp
            try simp only [Act.put, List.setIfInBounds_toArray, List.set_cons_zero, List.set_cons_succ]
            refine wpAnyH_take (i := 3) (oi := { dst := some 43, op := Op.load 75 (.tmp 42), type := 75, pos := "table.go:83", after := #[{ on := 2, ground := Ground.data }], guard := none }) (v := (.map (some mb))) rfl (by kernel_rfl) (by kernel_rfl) (by kernel_rfl) (fun _ _ _ h => h) (Or.inl ⟨by rfl, ?_⟩) hHeld ?_
            · intro w9 hSw
              try dsimp only at hSw
              have hcc := hSw.1.cell 3 (.map (some mb)) rfl
              go_simp
            try simp only [Act.put, List.setIfInBounds_toArray, List.set_cons_zero, List.set_cons_succ]
            refine wpAnyH_take (i := 4) (oi := { dst := some 44, op := Op.load 26 (.tmp 5), type := 26, pos := "table.go:83", after := #[], guard := none }) (v := (.agg f.w.v)) rfl (by kernel_rfl) (by kernel_rfl) (by kernel_rfl) (fun _ _ _ h => h) (yieldsIf_blk_w (by kernel_rfl) _ _ rfl We11.heap.size (by rfl) _ (fun _ hSw => hSw.2.1) Try.underlying26 (by kernel_rfl)) hHeld ?_
            try simp only [Act.put, List.setIfInBounds_toArray, List.set_cons_zero, List.set_cons_succ]
            refine wpAnyH_ready (rs := [5]) (by kernel_rfl) (by simp) ?_
            refine AllReadyH.cons (o := { dst := none, op := Op.call { callee := Callee.builtin Builtin.delete, args := #[.tmp 43, .tmp 44], argTypes := #[75, 26] }, type := 0, pos := "table.go:83", after := #[{ on := 3, ground := Ground.data }, { on := 4, ground := Ground.data }], guard := none }) rfl (fun K hK => ?_) AllReadyH.nil
            have RQ := ranges_but HG1.out Qdq28 (fun x => x) (fun x => x)
            refine step_delete_rngF rfl _ _ rfl mb Wm7.heap.size G.length _ _ cnt1 f.w kl HKL.out (by rfl) (by rfl) RQ HKF.out ?_
            intro Wx29 cnt2 rgx29 lex29 tx29
            have Tx29 := Tdq28.turned tx29 nTM
            have Ax29 := Adq28.turned tx29 (by have h1 := M.lt; have h2 := be11.size; omega)
            have Bx29 := Bdq28.turned tx29 (by have h1 := M.lt; have h2 := bm23.size; omega)
            have bx29 := bdq28.turned tx29 (.inl (.inr rfl))
            refine hK.out _ _ (by exact ⟨Tx29, Ax29, Bx29⟩) (fun hHeld => ?_)
            clear hK K
            try simp only [Act.put, List.setIfInBounds_toArray, List.set_cons_zero, List.set_cons_succ]
            refine wpAnyH_done (by kernel_rfl) ?_ _
            refine NoPanic.normal ?_
            go_wp2_with fail
            refine ⟨⟨fun z => left z && !z.sameKey kl, cnt2, ?_, Tx29, bx29⟩, ?_⟩
            · have e8 : flF G now (fun z => left z && !z.sameKey kl) = strike kl (flF G now left) := flF_drop H.out.keys HL.out (by have : decide (f.ends ≤ now) = true := by assumption
                                                                                                                                    simpa using this)
              have rg2 := rgx29
              rw [Maps.strike_twice, toDF_del] at rg2
              rw [e8]; exact rg2
            · rw [rgx29.left_eq, hrg.out.left_eq]; exact Nat.lt_of_le_of_lt lex29 HLT.out


    | true =>
      have c30 := Tm1.cell 2 (.int .i64 s.now) rfl
      go_wp2_with fail
      have hR2 : R = (s, 25) := by rw [← HR.out]; unfold Ft.tick; rw [if_pos (by first | (left; simpa using (by assumption : decide (now < s.now) = true)) | (right; simpa using (by assumption : decide (4611686018427387904 < now) = true)))]
      subst hR2
      go_ret
      exact ⟨rfl, ⟨_, H.out.same Tm1 Mm1⟩, bm1⟩


  | true =>
    have c31 := Tm1.cell 2 (.int .i64 s.now) rfl
    go_wp2_with fail
    have hR2 : R = (s, 25) := by rw [← HR.out]; unfold Ft.tick; rw [if_pos (by first | (left; simpa using (by assumption : decide (now < s.now) = true)) | (right; simpa using (by assumption : decide (4611686018427387904 < now) = true)))]
    subst hR2
    go_ret
    exact ⟨rfl, ⟨_, H.out.same Tm1 Mm1⟩, bm1⟩
/-- w' is w with draws and new blocks. -/
structure Gr (w w' : World) : Prop where
  bel : Below w.heap.size w w'
  drn : w.drawn ≤ w'.drawn
theorem Gr.refl (w : World) : Gr w w := ⟨Below.refl _ _, Nat.le_refl _⟩
theorem Gr.drew {w w' : World} (h : Gr w w') : Gr w w'.drew := ⟨h.bel.drew, Nat.le_trans h.drn (Nat.le_succ _)⟩
theorem Gr.alloc {w w' : World} (h : Gr w w') (o : Obj) : Gr w (w'.alloc o) := ⟨h.bel.alloc h.bel.size _, h.drn⟩
theorem gr_tr {a b c : World} (h : Gr a b) (k : Gr b c) : Gr a c := ⟨bel_tr h.bel k.bel, Nat.le_trans h.drn k.drn⟩
theorem gr_two (w : World) (X Y : Obj) : Gr w ((w.alloc X).alloc Y) := ((Gr.refl w).alloc X).alloc Y
theorem gr_grow {w w' : World} (h : Gr w w') : ∃ n os, w' = Sort.grow (w.drewN n) os := by
  refine ⟨w'.drawn - w.drawn, w'.heap.extract w.heap.size w'.heap.size, ?_⟩
  have e1 : w'.heap = w.heap ++ w'.heap.extract w.heap.size w'.heap.size := by
    apply Array.ext_getElem?
    intro i
    have hs := h.bel.size
    by_cases hi : i < w.heap.size
    · rw [Array.getElem?_append_left hi, h.bel.block i hi]
    · rw [Array.getElem?_append_right (by omega), Array.getElem?_extract]
      split
      · congr 1; omega
      · rw [Array.getElem?_eq_none (by omega)]
  cases w' with
  | mk heap tape drawn os output =>
    have h1 : os = w.os := h.bel.os
    have h2 : tape = w.tape := h.bel.tape
    have h3 : output = w.output := h.bel.output
    have h4 : w.drawn ≤ drawn := h.drn
    simp only at e1
    unfold Sort.grow World.drewN
    simp only [World.mk.injEq]
    refine ⟨e1, h2, by omega, h1, h3⟩
set_option maxRecDepth 100000 in
set_option maxHeartbeats 1000000 in
theorem orderG_any (f h l f' h' l' : Int) (w : World) :
    Calls Try.prog 77 #[.agg #[.int .i64 f, .int .u64 h, .int .u64 l], .agg #[.int .i64 f', .int .u64 h', .int .u64 l']] w fun e w' => e = .returned (.int .i64 (Ad.order ⟨f, h, l⟩ ⟨f', h', l'⟩)) ∧ Gr w w' := by
  have k1 := cmpI_any f f'
  have k2 := cmpU_any h h'
  have k3 := cmpU_any l l'
  have ko : Ad.order ⟨f, h, l⟩ ⟨f', h', l'⟩ = if cmp3 f f' = 0 then (if cmp3 h h' = 0 then cmp3 l l' else cmp3 h h') else cmp3 f f' := rfl
  rw [ko]
  generalize cmp3 f f' = x at *
  generalize cmp3 h h' = y at *
  generalize cmp3 l l' = z at *
  obtain ⟨T, hT⟩ : ∃ T, (if x = 0 then (if y = 0 then z else y) else x) = T := ⟨_, rfl⟩
  rw [hT]
  clear ko
  have kor : ∀ (b c : Nat) (w : World), w.cell? ⟨b, 0, none⟩ = some (.int .i64 x) → w.cell? ⟨b, 1, none⟩ = some (.int .i64 y) → w.cell? ⟨b, 2, none⟩ = some (.int .i64 z) → Calls Try.prog 95 #[.slice (some ⟨b, 0, none⟩) 3 c] w fun e w' => e = .returned (.int .i64 T) ∧ w' = w := fun b c w h0 h1 h2 => by
    have := or_any 0 x y z b w h0 h1 h2 c
    rwa [hT] at this
  clear hT
  go_enter Try.func77, Try.ntmps77
  go_wp2
  go_region_held3 (fun w'' => w''.cell? ⟨w.heap.size, 0, none⟩ = some (.int .i64 f) ∧ w''.cell? ⟨w.heap.size, 1, none⟩ = some (.int .u64 h) ∧ w''.cell? ⟨w.heap.size, 2, none⟩ = some (.int .u64 l) ∧ w''.cell? ⟨w.heap.size + 1, 0, none⟩ = some (.int .i64 f') ∧ w''.cell? ⟨w.heap.size + 1, 1, none⟩ = some (.int .u64 h') ∧ w''.cell? ⟨w.heap.size + 1, 2, none⟩ = some (.int .u64 l')) (go_keep) (first
    | (go_at_call 76; refine (k1 _).mono ?_; rintro e w' ⟨rfl, rfl⟩)
    | (go_at_call 96; (with_reducible show Calls _ _ #[Value.int _ h, _] _ _); refine (k2 _).mono ?_; rintro e w' ⟨rfl, rfl⟩)
    | (go_at_call 96; refine (k3 _).mono ?_; rintro e w' ⟨rfl, rfl⟩)
    | (go_at_call 95; refine (kor _ _ _ (by simp [go_sem]) (by simp [go_sem]) (by simp [go_sem])).mono ?_; rintro e w' ⟨rfl, rfl⟩))
  all_goals go_wp2
  all_goals go_ret
  all_goals exact ⟨rfl, by repeat (first | exact Gr.refl _ | refine Gr.drew ?_ | refine Gr.alloc ?_ _)⟩
set_option maxRecDepth 100000 in
set_option maxHeartbeats 2000000 in
theorem orderG_t (a b : Wy) (w : World) :
    Calls Try.prog 54 #[.agg a.v, .agg b.v] w fun e w' => e = .returned (.int .i64 (a.order b)) ∧ Gr w w' := by
  obtain ⟨f, pr, ⟨sf, sh, sl⟩, ⟨df, dh, dl⟩, sp, dp⟩ := a
  obtain ⟨f', pr', ⟨sf', sh', sl'⟩, ⟨df', dh', dl'⟩, sp', dp'⟩ := b
  obtain ⟨T, hT⟩ : ∃ T, Wy.order ⟨f, pr, ⟨sf, sh, sl⟩, ⟨df, dh, dl⟩, sp, dp⟩ ⟨f', pr', ⟨sf', sh', sl'⟩, ⟨df', dh', dl'⟩, sp', dp'⟩ = T := ⟨_, rfl⟩
  rw [hT]
  have HT : Hid ((if f = f' then (if pr = pr' then (if Ad.same ⟨sf, sh, sl⟩ ⟨sf', sh', sl'⟩ = true then (if Ad.same ⟨df, dh, dl⟩ ⟨df', dh', dl'⟩ = true then (if sp = sp' then cmp3 dp dp' else cmp3 sp sp') else Ad.order ⟨df, dh, dl⟩ ⟨df', dh', dl'⟩) else Ad.order ⟨sf, sh, sl⟩ ⟨sf', sh', sl'⟩) else cmp3 pr pr') else cmp3 f f') = T) := hT
  clear hT
  by_cases h1 : f = f'
  case neg =>
    have T1 := HT.out
    rw [if_neg h1] at T1
    have n_ : (f == f') = false := by simpa using h1
    have T2 : Hid _ := T1
    clear HT T1
    have K := fun W => cmpI_any f f' W
    have b2 := gr_two w (.cells (Wy.v ⟨f, pr, ⟨sf, sh, sl⟩, ⟨df, dh, dl⟩, sp, dp⟩) 26) (.cells (Wy.v ⟨f', pr', ⟨sf', sh', sl'⟩, ⟨df', dh', dl'⟩, sp', dp'⟩) 26)
    go_enter Try.func54, Try.ntmps54
    go_wp2_with (go_at_call 76; refine (K _).mono ?_; rintro e w' ⟨rfl, rfl⟩)
    go_ret
    exact ⟨ret_int T2.out, b2⟩
  subst h1
  by_cases h2 : pr = pr'
  case neg =>
    have T1 := HT.out
    rw [if_pos rfl, if_neg h2] at T1
    have n_ : (pr == pr') = false := by simpa using h2
    have T2 : Hid _ := T1
    clear HT T1
    have K := fun W => cmpI_any pr pr' W
    have b2 := gr_two w (.cells (Wy.v ⟨f, pr, ⟨sf, sh, sl⟩, ⟨df, dh, dl⟩, sp, dp⟩) 26) (.cells (Wy.v ⟨f, pr', ⟨sf', sh', sl'⟩, ⟨df', dh', dl'⟩, sp', dp'⟩) 26)
    go_enter Try.func54, Try.ntmps54
    go_wp2_with (go_at_call 76; refine (K _).mono ?_; rintro e w' ⟨rfl, rfl⟩)
    go_ret
    exact ⟨ret_int T2.out, b2⟩
  subst h2
  by_cases h3f : sf = sf'
  case neg =>
    have T1 := HT.out
    rw [if_pos rfl, if_pos rfl, if_neg (Ad.same_no (fun e => h3f e.1))] at T1
    have n_ : (sf == sf') = false := by simpa using h3f
    have T2 : Hid _ := T1
    clear HT T1
    have K := fun W => orderG_any sf sh sl sf' sh' sl' W
    have b2 := gr_two w (.cells (Wy.v ⟨f, pr, ⟨sf, sh, sl⟩, ⟨df, dh, dl⟩, sp, dp⟩) 26) (.cells (Wy.v ⟨f, pr, ⟨sf', sh', sl'⟩, ⟨df', dh', dl'⟩, sp', dp'⟩) 26)
    go_enter Try.func54, Try.ntmps54
    go_wp2_with (go_at_call 77; refine (K _).mono ?_; rintro e w' ⟨rfl, bb⟩)
    go_ret
    exact ⟨ret_int T2.out, gr_tr b2 bb⟩
  subst h3f
  by_cases h3h : sh = sh'
  case neg =>
    have T1 := HT.out
    rw [if_pos rfl, if_pos rfl, if_neg (Ad.same_no (fun e => h3h e.2.1))] at T1
    have n_ : (sh == sh') = false := by simpa using h3h
    have T2 : Hid _ := T1
    clear HT T1
    have K := fun W => orderG_any sf sh sl sf sh' sl' W
    have b2 := gr_two w (.cells (Wy.v ⟨f, pr, ⟨sf, sh, sl⟩, ⟨df, dh, dl⟩, sp, dp⟩) 26) (.cells (Wy.v ⟨f, pr, ⟨sf, sh', sl'⟩, ⟨df', dh', dl'⟩, sp', dp'⟩) 26)
    go_enter Try.func54, Try.ntmps54
    go_wp2_with (go_at_call 77; refine (K _).mono ?_; rintro e w' ⟨rfl, bb⟩)
    go_ret
    exact ⟨ret_int T2.out, gr_tr b2 bb⟩
  subst h3h
  by_cases h3l : sl = sl'
  case neg =>
    have T1 := HT.out
    rw [if_pos rfl, if_pos rfl, if_neg (Ad.same_no (fun e => h3l e.2.2))] at T1
    have n_ : (sl == sl') = false := by simpa using h3l
    have T2 : Hid _ := T1
    clear HT T1
    have K := fun W => orderG_any sf sh sl sf sh sl' W
    have b2 := gr_two w (.cells (Wy.v ⟨f, pr, ⟨sf, sh, sl⟩, ⟨df, dh, dl⟩, sp, dp⟩) 26) (.cells (Wy.v ⟨f, pr, ⟨sf, sh, sl'⟩, ⟨df', dh', dl'⟩, sp', dp'⟩) 26)
    go_enter Try.func54, Try.ntmps54
    go_wp2_with (go_at_call 77; refine (K _).mono ?_; rintro e w' ⟨rfl, bb⟩)
    go_ret
    exact ⟨ret_int T2.out, gr_tr b2 bb⟩
  subst h3l
  by_cases h4f : df = df'
  case neg =>
    have T1 := HT.out
    rw [if_pos rfl, if_pos rfl, if_pos (Ad.same_yes _), if_neg (Ad.same_no (fun e => h4f e.1))] at T1
    have n_ : (df == df') = false := by simpa using h4f
    have T2 : Hid _ := T1
    clear HT T1
    have K := fun W => orderG_any df dh dl df' dh' dl' W
    have b2 := gr_two w (.cells (Wy.v ⟨f, pr, ⟨sf, sh, sl⟩, ⟨df, dh, dl⟩, sp, dp⟩) 26) (.cells (Wy.v ⟨f, pr, ⟨sf, sh, sl⟩, ⟨df', dh', dl'⟩, sp', dp'⟩) 26)
    go_enter Try.func54, Try.ntmps54
    go_wp2_with (go_at_call 77; refine (K _).mono ?_; rintro e w' ⟨rfl, bb⟩)
    go_ret
    exact ⟨ret_int T2.out, gr_tr b2 bb⟩
  subst h4f
  by_cases h4h : dh = dh'
  case neg =>
    have T1 := HT.out
    rw [if_pos rfl, if_pos rfl, if_pos (Ad.same_yes _), if_neg (Ad.same_no (fun e => h4h e.2.1))] at T1
    have n_ : (dh == dh') = false := by simpa using h4h
    have T2 : Hid _ := T1
    clear HT T1
    have K := fun W => orderG_any df dh dl df dh' dl' W
    have b2 := gr_two w (.cells (Wy.v ⟨f, pr, ⟨sf, sh, sl⟩, ⟨df, dh, dl⟩, sp, dp⟩) 26) (.cells (Wy.v ⟨f, pr, ⟨sf, sh, sl⟩, ⟨df, dh', dl'⟩, sp', dp'⟩) 26)
    go_enter Try.func54, Try.ntmps54
    go_wp2_with (go_at_call 77; refine (K _).mono ?_; rintro e w' ⟨rfl, bb⟩)
    go_ret
    exact ⟨ret_int T2.out, gr_tr b2 bb⟩
  subst h4h
  by_cases h4l : dl = dl'
  case neg =>
    have T1 := HT.out
    rw [if_pos rfl, if_pos rfl, if_pos (Ad.same_yes _), if_neg (Ad.same_no (fun e => h4l e.2.2))] at T1
    have n_ : (dl == dl') = false := by simpa using h4l
    have T2 : Hid _ := T1
    clear HT T1
    have K := fun W => orderG_any df dh dl df dh dl' W
    have b2 := gr_two w (.cells (Wy.v ⟨f, pr, ⟨sf, sh, sl⟩, ⟨df, dh, dl⟩, sp, dp⟩) 26) (.cells (Wy.v ⟨f, pr, ⟨sf, sh, sl⟩, ⟨df, dh, dl'⟩, sp', dp'⟩) 26)
    go_enter Try.func54, Try.ntmps54
    go_wp2_with (go_at_call 77; refine (K _).mono ?_; rintro e w' ⟨rfl, bb⟩)
    go_ret
    exact ⟨ret_int T2.out, gr_tr b2 bb⟩
  subst h4l
  by_cases h5 : sp = sp'
  case neg =>
    have T1 := HT.out
    rw [if_pos rfl, if_pos rfl, if_pos (Ad.same_yes _), if_pos (Ad.same_yes _), if_neg h5] at T1
    have n_ : (sp == sp') = false := by simpa using h5
    have T2 : Hid _ := T1
    clear HT T1
    have K := fun W => cmpI_any sp sp' W
    have b2 := gr_two w (.cells (Wy.v ⟨f, pr, ⟨sf, sh, sl⟩, ⟨df, dh, dl⟩, sp, dp⟩) 26) (.cells (Wy.v ⟨f, pr, ⟨sf, sh, sl⟩, ⟨df, dh, dl⟩, sp', dp'⟩) 26)
    go_enter Try.func54, Try.ntmps54
    go_wp2_with (go_at_call 76; refine (K _).mono ?_; rintro e w' ⟨rfl, rfl⟩)
    go_ret
    exact ⟨ret_int T2.out, b2⟩
  subst h5
  have T1 := HT.out
  rw [if_pos rfl, if_pos rfl, if_pos (Ad.same_yes _), if_pos (Ad.same_yes _), if_pos rfl] at T1
  have T2 : Hid _ := T1
  clear HT T1
  have K := fun W => cmpI_any dp dp' W
  have b2 := gr_two w (.cells (Wy.v ⟨f, pr, ⟨sf, sh, sl⟩, ⟨df, dh, dl⟩, sp, dp⟩) 26) (.cells (Wy.v ⟨f, pr, ⟨sf, sh, sl⟩, ⟨df, dh, dl⟩, sp, dp'⟩) 26)
  go_enter Try.func54, Try.ntmps54
  go_wp2_with (go_at_call 76; refine (K _).mono ?_; rintro e w' ⟨rfl, rfl⟩)
  go_ret
  exact ⟨ret_int T2.out, b2⟩
set_option maxRecDepth 100000 in
set_option maxHeartbeats 2000000 in
theorem all1_fw (x y : Fl) (w : World) : Calls Try.prog 53 #[.agg x.v, .agg y.v] w fun e w' => e = .returned (.int .i64 (x.w.order y.w)) ∧ Gr w w' := by
  have g2 := gr_two w (.cells x.v 33) (.cells y.v 33)
  obtain ⟨W1, hW1⟩ : ∃ W, w.alloc (.cells x.v 33) = W := ⟨_, rfl⟩
  have A1 := blk_nw hW1
  obtain ⟨W2, hW2⟩ : ∃ W, W1.alloc (.cells y.v 33) = W := ⟨_, rfl⟩
  have A2 := A1.al hW2
  have B2 := blk_nw hW2
  rw [hW1, hW2] at g2
  clear A1
  go_enter Try.func53, Try.ntmps53
  go_wp2_with (first | (refine wpList_load_sub_w (by rfl) _ _ rfl w.heap.size 0 _ (by rfl) _ x.w.v A2 (by rfl) Try.underlying26 (by kernel_rfl) ?_) | (refine wpList_load_sub_w (by rfl) _ _ rfl W1.heap.size 0 _ (by rfl) _ y.w.v B2 (by rfl) Try.underlying26 (by kernel_rfl) ?_))
  refine Calls.mono (orderG_t x.w y.w _) ?_
  rintro e W3 ⟨rfl, g3⟩
  go_wp2
  go_ret
  exact ⟨rfl, gr_tr g2 g3⟩
theorem fl_len {α : Type} (f : α → List Value) (n : Nat) (hf : ∀ a, (f a).length = n) : ∀ L : List α, (L.flatMap f).length = L.length * n
  | [] => by simp
  | a :: r => by simp only [List.flatMap_cons, List.length_append, hf, fl_len f n hf r, List.length_cons, Nat.add_mul]; omega
theorem fl_get {α : Type} (f : α → List Value) (n : Nat) (hf : ∀ a, (f a).length = n) : ∀ (L : List α) (i j : Nat) (q : α), L[i]? = some q → j < n → (L.flatMap f)[i * n + j]? = (f q)[j]?
  | [], i, j, q, h, _ => by simp at h
  | a :: r, 0, j, q, h, hj => by
    obtain rfl : a = q := by simpa using h
    rw [List.flatMap_cons, Nat.zero_mul, Nat.zero_add, List.getElem?_append_left (by rw [hf]; exact hj)]
  | a :: r, i + 1, j, q, h, hj => by
    rw [List.flatMap_cons, List.getElem?_append_right (by rw [hf, Nat.add_mul]; omega), hf]
    have : (i + 1) * n + j - n = i * n + j := by rw [Nat.add_mul]; omega
    rw [this]
    exact fl_get f n hf r i j q (by simpa using h) hj
abbrev zflV : Array Value := #[.int .i64 0, .int .i64 0, .int .i64 0, .int .u64 0, .int .u64 0, .int .i64 0, .int .u64 0, .int .u64 0, .int .i64 0, .int .i64 0, .int .i64 0, .int .u32 0, .int .u32 0, .int .u32 0, .int .u32 0, .bool false, .bool false, .bool false, .bool false, .int .i64 0, .int .i64 0, .bool false]
theorem info_flow : (Try.prog.info? 33).map (fun i => (i.zero, i.size, i.bytes)) = some (some (.agg zflV), 22, 136) := by kernel_rfl
abbrev pc22 (L : List Fl) : List Value := L.flatMap fun q => q.v.toList
theorem flv_len (q : Fl) : q.v.toList.length = 22 := rfl
theorem flv_one (y : Fl) : ∀ u ∈ y.v.toList, u.oneCell' = true := by
  intro u hu
  simp only [List.mem_cons, List.not_mem_nil, or_false] at hu
  rcases hu with rfl | rfl | rfl | rfl | rfl | rfl | rfl | rfl | rfl | rfl | rfl | rfl | rfl | rfl | rfl | rfl | rfl | rfl | rfl | rfl | rfl | rfl <;> rfl
abbrev RowL (w : World) (a : Option Addr) (l : List Fl) : Prop := RowN 22 Fl.v (fun _ _ => True) w a l
/-- A slice of points of one's own. -/
def OwnL (w : World) (B : Nat) (a : Option Addr) (c : Nat) (L : List Fl) : Prop := w.ownsRow B 33 22 (.slice a L.length c) L.length (pc22 L)
theorem OwnL.below {w w' : World} {B : Nat} {a : Option Addr} {c : Nat} {l : List Fl} (h : OwnL w B a c l) (hb : Below w.heap.size w w') : OwnL w' B a c l := by
  obtain ⟨h1, h2⟩ := h
  refine ⟨h1, ?_⟩
  rcases h2 with h2 | ⟨g, cap, cur, h3, h4, h5, h6⟩
  · exact .inl h2
  · refine .inr ⟨g, cap, cur, h3, h4, (hb.block g ?_).trans h5, h6⟩
    exact (Array.getElem?_eq_some_iff.1 h5).1
theorem OwnL.base {w : World} {B B' : Nat} {a : Option Addr} {c : Nat} {l : List Fl} (h : OwnL w B a c l) (hb : B' ≤ B) : OwnL w B' a c l :=
  ⟨h.1, h.2.imp id fun ⟨g, cap, cur, h1, h2, h3⟩ => ⟨g, cap, cur, h1, Nat.le_trans hb h2, h3⟩⟩
theorem OwnL.row {w : World} {B : Nat} {a : Option Addr} {c : Nat} {l : List Fl} (h : OwnL w B a c l) (hl : ∀ r ∈ l, True) : RowL w a l := by
  refine ⟨hl, fun i q hi => ?_⟩
  have hlt : i < l.length := (List.getElem?_eq_some_iff.1 hi).1
  obtain ⟨h1, h2⟩ := h
  rcases h2 with ⟨h3, h4⟩ | ⟨g, cap, cur, h3, h4, h5, h6, h7, h8, h9⟩
  · omega
  · simp only [Value.slice.injEq] at h3
    obtain ⟨rfl, _, rfl⟩ := h3
    have B : Blk w g 33 cur := h5
    refine ⟨g, 0, rfl, B.lt, fun j v hj => B.cell _ v ?_⟩
    have hj' : j < 22 := (Array.getElem?_eq_some_iff.1 hj).1
    have h10 := fl_get (fun q : Fl => q.v.toList) 22 flv_len l i j q hi hj'
    have h11 : (cur.toList.take (l.length * 22))[i * 22 + j]? = q.v.toList[j]? := by rw [h9]; exact h10
    rw [List.getElem?_take_of_lt (by omega)] at h11
    rw [Array.getElem?_toList] at h11
    rw [Nat.zero_add, h11]
    simpa using hj
theorem OwnL.lt {w : World} {B : Nat} {a : Option Addr} {c : Nat} {l : List Fl} (h : OwnL w B a c l) : ∀ y, a = some y → B ≤ y.block := by
  intro y hy
  obtain ⟨h1, h2⟩ := h
  rcases h2 with ⟨h2, _⟩ | ⟨g, cap, cur, h3, h4, h5, h6⟩
  · simp only [Value.slice.injEq] at h2
    rw [h2.1] at hy
    cases hy
  · simp only [Value.slice.injEq] at h3
    rw [h3.1] at hy
    cases hy
    exact h4
/-- Its block, and what lies there. -/
theorem OwnL.blk {w : World} {B g c : Nat} {l : List Fl} (h : OwnL w B (some ⟨g, 0, none⟩) c l) : ∃ cur, Blk w g 33 cur ∧ cur.size = c * 22 ∧ B ≤ g ∧ l.length ≤ c ∧ c ≤ maxLen ∧ ∀ i q j, l[i]? = some q → j < 22 → cur[i * 22 + j]? = q.v[j]? := by
  obtain ⟨h1, h2⟩ := h
  rcases h2 with ⟨h3, h4⟩ | ⟨g', cap, cur, h3, h4, h5, h6, h7, h8, h9⟩
  · cases h3
  · simp only [Value.slice.injEq, Option.some.injEq, Addr.mk.injEq] at h3
    obtain ⟨⟨rfl, _, _⟩, _, rfl⟩ := h3
    refine ⟨cur, h5, h8, h4, h6, h7, fun i q j hi hj => ?_⟩
    have hlt : i < l.length := (List.getElem?_eq_some_iff.1 hi).1
    have h10 := fl_get (fun q : Fl => q.v.toList) 22 flv_len l i j q hi hj
    have h11 : (cur.toList.take (l.length * 22))[i * 22 + j]? = q.v.toList[j]? := by rw [h9]; exact h10
    rw [List.getElem?_take_of_lt (by omega)] at h11
    rw [Array.getElem?_toList] at h11
    rw [h11]
    simp
theorem take_fls {cur : Array Value} {l : List Fl} (hs : l.length * 22 ≤ cur.size) (h : ∀ i q j, l[i]? = some q → j < 22 → cur[i * 22 + j]? = q.v[j]?) : cur.toList.take (l.length * 22) = pc22 l := by
  have hlen : (pc22 l).length = l.length * 22 := fl_len _ 22 flv_len l
  apply List.ext_getElem?
  intro m
  by_cases hm : m < l.length * 22
  · rw [List.getElem?_take_of_lt hm, Array.getElem?_toList]
    obtain ⟨q, hq⟩ : ∃ q, l[m / 22]? = some q := ⟨_, List.getElem?_eq_getElem (by omega)⟩
    have h1 := h (m / 22) q (m % 22) hq (by omega)
    have h2 := fl_get (fun q : Fl => q.v.toList) 22 flv_len l (m / 22) (m % 22) q hq (by omega)
    rw [show m / 22 * 22 + m % 22 = m by omega] at h1 h2
    rw [h1, h2]
    simp
  · rw [List.getElem?_eq_none (by simp; omega), List.getElem?_eq_none (by rw [hlen]; omega)]
theorem OwnL.mk' {w : World} {B g c : Nat} {l : List Fl} {cur : Array Value} (hb : Blk w g 33 cur) (hs : cur.size = c * 22) (hB : B ≤ g) (hl : l.length ≤ c) (hc : c ≤ maxLen) (h : ∀ i q j, l[i]? = some q → j < 22 → cur[i * 22 + j]? = q.v[j]?) : OwnL w B (some ⟨g, 0, none⟩) c l :=
  ⟨fl_len _ 22 flv_len l, .inr ⟨g, c, cur, rfl, hB, hb, hl, hc, hs, take_fls (by omega) h⟩⟩
/-- append(v, x) of one point, which lies in a new block. -/
theorem wpList_appL {ops : Array Oper} {rest : List Oper} {o : Oper} {ac : Act} {Q : Exit → Act → World → Prop} (w : World) (hgd : o.guard = none) (s x : Operand)
    (ho : o.op = .call { callee := .builtin .append, args := #[s, x], argTypes := #[53, 53] })
    (B : Nat) (a : Option Addr) (c : Nat) (xs : List Fl) (hs : ac.eval s = .slice a xs.length c) (hown : OwnL w B a c xs)
    (g0 cc : Nat) (y : Fl) (hx : ac.eval x = .slice (some ⟨g0, 0, none⟩) 1 cc) (hc : CellsAt w g0 0 y.v)
    (hsum : xs.length + 1 ≤ 10000000) (hbase : B ≤ w.heap.size)
    (h : ∀ g c' w', OwnL w' B (some ⟨g, 0, none⟩) c' (xs ++ [y]) → Below B w w' → w.grownBy w' (a.map (·.block)) → wpList Try.prog ops Q rest (ac.put o.dst (.slice (some ⟨g, 0, none⟩) (xs.length + 1) c')) w') : wpList Try.prog ops Q (o :: rest) ac w := by
  obtain ⟨i0, hi, hz0, hz1, hz2⟩ := info_parts info_flow
  refine wpList_append_lies w hgd s x 53 ho B 33 i0 (.agg zflV) 22 136 Try.underlying53 hi hz0 hz1 hz2 rfl (by decide) (.slice a xs.length c) xs.length (pc22 xs) hs hown ⟨g0, 0, none⟩ 1 cc y.v.toList hx (by simp) ?_ (flv_one y) (by decide) (by unfold maxLen; omega) (by omega) hbase _ rfl ?_
  · intro j u hj
    have := hc.2 j u (by simpa using hj)
    rw [show (⟨g0, 0, none⟩ : Addr).add j = ⟨g0, 0 + j, none⟩ from Go.WideShapes.add_plain ..]
    exact this
  · intro g cap w' h1 h2 h3 h4
    have hbk : (Value.slice a xs.length c).ownBlock = a.map (·.block) := by
      cases a with
      | none => rfl
      | some ad' => cases ad'; rfl
    refine h g cap w' ?_ ((Below.refl _ _).grown h2 hbase fun k hk => ?_) (hbk ▸ h2)
    · show w'.ownsRow B 33 22 _ (xs ++ [y]).length (pc22 (xs ++ [y]))
      have e : pc22 (xs ++ [y]) = pc22 xs ++ y.v.toList := by simp [pc22]
      rw [List.length_append, e]
      exact h1
    · cases a with
      | none => cases hk
      | some ad' =>
        have e : ad'.block = k := by
          cases ad'
          simpa [Value.ownBlock] using hk
        rw [← e]
        exact OwnL.lt hown ad' rfl
instance : Inhabited Fl := ⟨fl0⟩
abbrev encL (p : Fl) : List Value := p.v.toList
def ordL (x y : Fl) : Int := x.w.order y.w
theorem ordL_less (x y : Fl) : ltOf ordL x y = decide (x.w.order y.w < 0) := by unfold ltOf ordL; rfl
theorem swoL : Sort.SWO (ltOf ordL) where
  irrefl x := by rw [ordL_less, order_self]; rfl
  trans x y z h1 h2 := by
    rw [ordL_less, decide_eq_true_eq] at *
    exact order_lt_tr h1 h2
  ntrans x y z h1 h2 := by
    rw [ordL_less, decide_eq_false_iff_not] at *
    have a := Wy.order_neg x.w y.w
    have b := Wy.order_neg y.w z.w
    have c := Wy.order_neg x.w z.w
    have := Wy.order_tr (a := z.w) (b := y.w) (c := x.w) (by omega) (by omega)
    omega
theorem flat_getL (d : Array Fl) (i j : Nat) (hi : i < d.size) (hj : j < 22) : (Sort.flatK encL 22 d)[i * 22 + j]! = (d[i]!).v[j]! := by
  rw [Sort.get_flatK _ _ _ _ (by omega), show (i * 22 + j) / 22 = i by omega, show (i * 22 + j) % 22 = j by omega]
  simp [encL]
theorem heap_sortedL {w : World} {g n : Nat} {os : Array Obj} {cur : Array Value} {e : TypeId} (d : Array Fl) (hb : Blk w g e cur) :
    Blk (sortWorldK encL 22 w g 0 n d os) g e (Sort.putCells id 0 (Sort.flatK encL 22 d) cur) := by
  have hb' : w.heap[g]? = some (.cells cur e (0, 0)) := hb
  have hg : g < w.heap.size := hb.lt
  show (Sort.grow (Sort.putRow id (Sort.ahead w n) g 0 (Sort.flatK encL 22 d)) os).heap[g]? = _
  rw [Sort.heap_grow_old _ _ (by simpa using hg)]
  simp [Sort.putRow, Sort.mapBlock, Sort.ahead, Array.getElem?_modify, hb', Sort.onCells]
theorem grownBy_sortedL {w : World} {g n : Nat} {os : Array Obj} (d : Array Fl) : w.grownBy (sortWorldK encL 22 w g 0 n d os) (some g) := by
  show w.grownBy (Sort.grow (Sort.putRow id (Sort.ahead w n) g 0 (Sort.flatK encL 22 d)) os) (some g)
  refine ⟨rfl, rfl, rfl, by simp, fun k hk hne => ?_⟩
  rw [Sort.heap_grow_old _ _ (by simpa using hk)]
  have : g ≠ k := fun e => hne (by rw [e])
  simp [Sort.putRow, Sort.mapBlock, Sort.ahead, Array.getElem?_modify, this]
theorem cmpLF (blk off size : Nat) (w : World) : CmpLays Try.prog 53 #[] encL 22 ordL blk off size w := fun m os dk hk x y => by
  have h := all1_fw x y (sortWorldK encL 22 w blk off m dk os)
  exact h.mono fun e w' ⟨h1, h2⟩ => ⟨h1, gr_grow h2⟩
theorem sort_fls (W : World) (B g c : Nat) (l : List Fl) (h : OwnL W B (some ⟨g, 0, none⟩) c l) (hB : B ≤ W.heap.size) (hll : l.length ≤ 1048576) :
    Calls Try.prog 52 #[.slice (some ⟨g, 0, none⟩) l.length c, .func (.func 53) #[] #[]] W fun e w' => e = .returned (.tuple #[]) ∧ ∃ l' : List Fl, l'.Perm l ∧ (l'.Pairwise fun p q => ¬ q.w.order p.w < 0) ∧ OwnL w' B (some ⟨g, 0, none⟩) c l' ∧ Below B W w' := by
  obtain ⟨cur, hb, hs, hBg, hlc, hcm, hel⟩ := h.blk
  have hH : Sort.HoldsK encL 22 W g 0 l.toArray := fun t ht => by
    rw [Sort.size_flatK] at ht
    have hi : t / 22 < l.length := by simp at ht; omega
    have hq : l[t / 22]? = some l[t / 22] := List.getElem?_eq_getElem hi
    have h1 := hel (t / 22) _ (t % 22) hq (by omega)
    rw [show t / 22 * 22 + t % 22 = t by omega] at h1
    have h2 := flat_getL l.toArray (t / 22) (t % 22) (by simpa using hi) (by omega)
    rw [show t / 22 * 22 + t % 22 = t by omega] at h2
    rw [Nat.zero_add, h2]
    have e1 : l.toArray[t / 22]! = l[t / 22] := by rw [getElem!_pos _ _ (by simpa using hi)]; simp
    rw [e1]
    refine ⟨?_, hb.frozen t⟩
    refine hb.cell t _ ?_
    rw [h1]
    rw [getElem!_pos _ _ (by show t % 22 < 22; omega)]
    exact Array.getElem?_eq_getElem _
  have K := Try.slices_SortFunc_Fl encL (fun _ => rfl) flv_one ordL swoL 53 #[] g 0 c l.toArray W Try.call53 (cmpLF g 0 _ W) hH hb.lt (by simp; omega)
  rw [show l.toArray.size = l.length by simp] at K
  refine Calls.mono K ?_
  rintro e w' ⟨rfl, d', n, os, hp, hso, rfl⟩
  have hsz : d'.size = l.length := by simpa using hp.1
  have hperm : d'.toList.Perm l := by
    have h2 := hp.2.2
    have e1 : d'.extract 0 l.length = d' := by rw [← hsz]; simp
    have e2 : l.toArray.extract 0 l.length = l.toArray := by simp
    rw [e1, e2] at h2
    simpa using h2
  refine ⟨rfl, d'.toList, hperm, ?_, ?_, ?_⟩
  · rw [List.pairwise_iff_getElem]
    intro i j hi hj hij
    have hi' : i < d'.size := by simpa using hi
    have hj' : j < d'.size := by simpa using hj
    have := hso i j (Nat.zero_le _) hij (by omega)
    rw [ordL_less, getElem!_pos d' i hi', getElem!_pos d' j hj'] at this
    simpa using this
  · refine OwnL.mk' (heap_sortedL d' hb) (by simp [Sort.putCells, hs]) hBg (by simpa [hsz] using hlc) hcm (fun i q j hi hj => ?_)
    have hi' : i < d'.size := by simpa using (List.getElem?_eq_some_iff.1 hi).1
    have hq : d'[i]! = q := by
      rw [getElem!_pos d' i hi']
      have := (List.getElem?_eq_some_iff.1 hi).2
      simpa using this
    have hF := flat_getL d' i j hi' hj
    have hlt : i * 22 + j < cur.size := by omega
    have hlt' : i * 22 + j < 0 + (Sort.flatK encL 22 d').size := by rw [Sort.size_flatK]; omega
    rw [hq] at hF
    have : (Sort.putCells id 0 (Sort.flatK encL 22 d') cur)[i * 22 + j]? = some (Sort.flatK encL 22 d')[i * 22 + j]! := by
      unfold Sort.putCells
      rw [Array.getElem?_mapIdx, Array.getElem?_eq_getElem hlt]
      simp only [Option.map_some, id]
      rw [if_pos ⟨Nat.zero_le _, hlt'⟩, Nat.sub_zero]
    rw [this, hF, getElem!_pos _ _ (by show j < 22; exact hj)]
    exact (Array.getElem?_eq_getElem _).symm
  · exact (Below.refl _ _).grown (grownBy_sortedL d') hB (fun k hk => by cases hk; exact hBg)
theorem OwnL.at_ {w w' : World} {B : Nat} {a : Option Addr} {c : Nat} {l : List Fl} (h : OwnL w B a c l) (hb : ∀ y, a = some y → w'.heap[y.block]? = w.heap[y.block]?) : OwnL w' B a c l := by
  obtain ⟨h1, h2⟩ := h
  refine ⟨h1, ?_⟩
  rcases h2 with h2 | ⟨g, cap, cur, h3, h4, h5, h6⟩
  · exact .inl h2
  · have h3' := h3
    simp only [Value.slice.injEq] at h3'
    exact .inr ⟨g, cap, cur, h3, h4, (hb ⟨g, 0, none⟩ h3'.1).trans h5, h6⟩
theorem OwnL.lt_size {w : World} {B : Nat} {a : Option Addr} {c : Nat} {l : List Fl} (h : OwnL w B a c l) : ∀ y, a = some y → y.block < w.heap.size := by
  intro y hy
  obtain ⟨h1, h2⟩ := h
  rcases h2 with ⟨h2, _⟩ | ⟨g, cap, cur, h3, h4, h5, h6⟩
  · simp only [Value.slice.injEq] at h2
    rw [h2.1] at hy; cases hy
  · simp only [Value.slice.injEq] at h3
    rw [h3.1] at hy; cases hy
    exact (Array.getElem?_eq_some_iff.1 h5).1
theorem own_ne {w : World} {b r n : Nat} {D : DataW Value} {left : Lit → Bool} {cnt : Nat} (hr : w.ranges Try.prog 26 heldElem b r n D left cnt) {B : Nat} {a : Option Addr} {c : Nat} {l : List Fl} (h : OwnL w B a c l) : ∀ y, a = some y → y.block ≠ b ∧ y.block ≠ r := by
  intro y hy
  obtain ⟨es, clock, since, seen, c0, hb', F', hs, hD, hr', rest⟩ := hr
  obtain ⟨h1, h2⟩ := h
  rcases h2 with ⟨h2, _⟩ | ⟨g, cap, cur, h3, h4, h5, h6⟩
  · simp only [Value.slice.injEq] at h2
    rw [h2.1] at hy; cases hy
  · simp only [Value.slice.injEq] at h3
    rw [h3.1] at hy; cases hy
    refine ⟨fun e => ?_, fun e => ?_⟩
    · simp only at e
      rw [e, hb'] at h5
      cases h5
    · simp only at e
      rw [e, hr'] at h5
      cases h5
theorem wpList_makeL {ops : Array Oper} {rest : List Oper} {o : Oper} {ac : Act} {Q : Exit → Act → World → Prop} (w : World) (hgd : o.guard = none) (l c : Operand) (ho : o.op = Op.makeSlice 53 l c) (B n : Nat) (hl : ac.eval l = .int .i64 0) (hc : ac.eval c = .int .i64 (n : Int)) (hn : n ≤ 1000000) (hB : B ≤ w.heap.size)
    (h : ∀ w', OwnL w' B (some ⟨w.heap.size, 0, none⟩) n [] → w.grownBy w' none → wpList Try.prog ops Q rest (ac.put o.dst (.slice (some ⟨w.heap.size, 0, none⟩) 0 n)) w') : wpList Try.prog ops Q (o :: rest) ac w := by
  obtain ⟨i0, hi, hz0, hz1, hz2⟩ := info_parts info_flow
  exact wpList_make_own w hgd l c 53 ho B 33 i0 _ 22 Try.underlying53 hi hz0 hz1 .i64 .i64 (n : Int) n hl hc rfl (by rw [hz2]; omega) (by unfold maxLen; omega) hB h
theorem vis_step {k : Lit} {f : Fl} {left : Lit → Bool} (hl : left k = true) (hk : WideAt.IsKeyLit k) : ∀ {G : List (Lit × Fl)}, Keys G → (k, f) ∈ G → (G.filter fun p => !(left p.1 && !p.1.sameKey k)).Perm ((k, f) :: G.filter fun p => !left p.1)
  | [], _, h => by cases h
  | y :: r, hK, h => by
    obtain ⟨h1, h2⟩ := List.pairwise_cons.1 hK
    rcases List.mem_cons.1 h with e | h'
    · subst e
      have e1 : (r.filter fun p => !(left p.1 && !p.1.sameKey k)) = r.filter fun p => !left p.1 := by
        refine List.filter_congr fun p hp => ?_
        have : p.1.sameKey k = false := by
          cases hs : p.1.sameKey k with
          | false => rfl
          | true => exact absurd (same_eq hs).symm (h1 p hp)
        rw [this]; simp
      rw [List.filter_cons, if_pos (by rw [same_self' hk]; simp), List.filter_cons, if_neg (by simp [hl]), e1]
    · have hne : y.1.sameKey k = false := by
        cases hs : y.1.sameKey k with
        | false => rfl
        | true => exact absurd (same_eq hs) (h1 _ h')
      have ih := vis_step hl hk h2 h'
      cases hy : left y.1
      · rw [List.filter_cons, if_pos (by simp [hy]), List.filter_cons, if_pos (by simp [hy])]
        exact (ih.cons y).trans (.swap _ _ _)
      · rw [List.filter_cons, if_neg (by simp [hy, hne]), List.filter_cons, if_neg (by simp [hy])]
        exact ih
theorem sort_strict {L M : List Fl} (hp : M.Perm L) (hL : SortF L) (hM : M.Pairwise fun p q => ¬ q.w.order p.w < 0) : M = L := by
  have hn : L.Pairwise fun p q => p.w ≠ q.w := hL.imp fun h => order_lt_ne h
  have hn2 : M.Pairwise fun p q => p.w ≠ q.w := (hp.pairwise_iff (fun {a b} (h : a.w ≠ b.w) => h.symm)).2 hn
  have hs : SortF M := (hM.and hn2).imp fun h => order_gt h.1 (fun e => h.2 e.symm)
  exact sort_eq hp hs hL
set_option maxRecDepth 100000 in
set_option maxHeartbeats 16000000 in
theorem all_at_fw (tb mb : Nat) (s : Ft) (G : List (Lit × Fl)) (w : World) (H0 : TabF w tb mb s G) :
    Calls Try.prog 23 #[.pointer (some ⟨tb, 0, none⟩)] w fun e w' => ∃ a c, e = .returned (.slice a s.L.length c) ∧ OwnL w' w.heap.size a c s.L ∧ Below w.heap.size w w' := by
  have nTM : tb ≠ mb := H0.ne
  have T := H0.tab
  have M := H0.map
  have H : Hid (TabF w tb mb s G) := H0
  clear H0
  have nMT : mb ≠ tb := fun e => nTM e.symm
  obtain ⟨R, hR⟩ : ∃ R, (0 : Int) = R := ⟨_, rfl⟩
  have HR : Hid ((0 : Int) = R) := hR
  try rw [hR]
  clear hR
  have b := Below.refl w.heap.size w
  go_enter Try.func23, Try.ntmps23
  go_wp2_with fail
  refine Calls.mono (made_at tb mb s _ T) ?_
  rintro e Wm1 ⟨rfl, bb⟩
  have Tm1 := T.kept bb
  have Mm1 := M.kept bb
  have bm1 := bel_tr b bb
  clear bb
  have c2 := Tm1.cell 3 (.map (some mb)) rfl
  have hL3 := len_at (ty := 3) H.out Mm1
  go_wp2_with (first | (refine wpList_makeL _ rfl _ _ rfl w.heap.size s.L.length (by rfl) (by rfl) (by have h9 := H.out.ok.few; have h8 := H.out.ok.most; omega) bm1.size ?_; intro Wg4 Og4 gm; have Tg4 : Blk Wg4 tb 77 (tabV s mb) := (gm.block tb Tm1.lt (by simp)).trans Tm1; have Mg4 : MapF Wg4 mb G := Mm1.but (F := fun _ => False) ((But.refl _ _).grown gm (fun n hn => by cases hn)) (fun x => x); have bg4 : Below w.heap.size w Wg4 := bm1.grown gm bm1.size (fun k hk => by cases hk); have c5 := Tg4.cell 3 (.map (some mb)) rfl) | (at_range; refine wpList_range_own _ rfl _ 75 rfl 26 33 keyWay Try.underlying75 heldElem mb G.length (toDF G) (by rfl) Mg4.own ?_; intro w0 hrg0 hg0 hs0))
  try go_frame
  have grr : w.heap.size ≤ Wg4.heap.size := bg4.size
  go_loopw [3] (fun v wr => ∃ left cnt g c acc, v = .slice (some ⟨g, 0, none⟩) (List.length acc) c ∧ Hid (wr.ranges Try.prog 26 heldElem mb Wg4.heap.size G.length (toDF G) left cnt) ∧ Hid (OwnL wr w.heap.size (some ⟨g, 0, none⟩) c acc) ∧ Hid (acc.Perm ((G.filter fun p => !left p.1).map (·.2))) ∧ Below w.heap.size w wr) (fun _ wr => wr.rangeLeft mb Wg4.heap.size)
  case atStart =>
    refine ⟨Maps.has (toDF G), Maps.size (toDF G), Wm1.heap.size, s.L.length, [], rfl, hrg0, ?_, ?_, bg4.grown hg0 bg4.size (fun k hk => by cases hk)⟩
    · exact Og4.at_ (fun y hy => hg0.block y.block (Og4.lt_size y hy) (by simp))
    · have e0 : (G.filter fun p => !(Maps.has (toDF G) p.1)) = [] := by
        refine List.filter_eq_nil_iff.2 fun p hp => ?_
        have : Maps.has (toDF G) p.1 = true := by
          rw [Maps.has_eq]
          exact List.any_eq_true.2 ⟨(p.1, .held (.agg p.2.v)), List.mem_map.2 ⟨p, hp, rfl⟩, WideAt.sameKey_self (by rw [H.out.key p hp]; exact keyLit_way _)⟩
        simp [this]
      rw [e0]
      exact List.Perm.refl _
  case round =>
    obtain ⟨left, cnt, g, c, acc, rfl, hrg, hO, hP, br⟩ := hrel
    clear hrg0 hg0 hs0
    obtain ⟨Wr, rfl⟩ : ∃ W, W = wr := ⟨_, rfl⟩
    go_wp2_with (at_next; refine wpList_next_ranges _ rfl _ rfl 26 keyWay heldElem (fun v : Value => v) (fun v : Value => v) (fun key kl hk => ⟨key, rfl⟩) (fun v y _ => ⟨v, rfl⟩) mb Wg4.heap.size G.length _ _ _ (by rfl) hrg.out ?_ ?_)
    · intro hc0 hl0
      go_wp2_with fail
      have e9 : (G.filter fun p => !left p.1) = G := List.filter_eq_self.2 fun p _ => by rw [hl0]; rfl
      have hP9 := hP.out
      rw [e9] at hP9
      have hPL : acc.Perm s.L := hP9.trans H.out.perm
      have hlen : acc.length = s.L.length := hPL.length_eq
      have hle : acc.length ≤ 1048576 := by have h9 := H.out.ok.few; have h10 := H.out.ok.most; omega
      refine Calls.mono (sort_fls _ w.heap.size g c acc hO.out br.size hle) ?_
      rintro e Wf ⟨rfl, l2, hp2, hs2, O2, b2⟩
      have e2 : l2 = s.L := sort_strict (hp2.trans hPL) H.out.ok.sorted hs2
      subst e2
      go_wp2
      go_ret
      exact ⟨some ⟨g, 0, none⟩, c, by rw [← hlen]; rfl, O2, br.trans b2⟩

    · intro x c9 kl y y2 We6 cnt1 hkey hlk hv hat hrg1 hlt hg1 hs1 hen
      have hy : y = .held c9 := by
        simp only [heldElem, Option.some.injEq, Prod.mk.injEq] at hv
        exact hv.1.symm
      have hhas : Maps.has (toDF G) kl = true := Maps.has_true_of_atKey hat
      rw [toDF_has] at hhas
      obtain ⟨f, hl⟩ := Option.isSome_iff_exists.1 hhas
      have hv2 : (toDF G).atKey kl (.held (.agg fl0.v)) = .held (.agg f.v) := by rw [toDF_at, hl]; rfl
      have hc : c9 = .agg f.v := by
        have h3 := (hat (.held (.agg fl0.v))).symm.trans hv2
        rw [hy] at h3
        injection h3
      subst hc
      have hfG : (kl, f) ∈ G := look_mem hl
      have hkf := H.out.kf hfG
      have hkl : kl = keyW f.w := H.out.key _ hfG
      have hx : x = .agg f.w.v := keyWay.inj hkey (by rw [hkl]; exact key_way f.w hkf)
      subst hx
      have be6 : Below w.heap.size w We6 := br.grown hg1 br.size (fun k hk => by cases hk; exact grr)
      have HG1 : Hid (We6.ranges Try.prog 26 heldElem mb Wg4.heap.size G.length (toDF G) (fun z => left z && !z.sameKey kl) cnt1) := hrg1
      have HO1 : Hid (OwnL We6 w.heap.size (some ⟨g, 0, none⟩) c acc) := hO.out.at_ (fun y hy => hg1.block y.block (hO.out.lt_size y hy) (fun e => (own_ne hrg.out hO.out y hy).2 (by injection e)))
      have HP1 : Hid ((acc ++ [f]).Perm ((G.filter fun p => !(left p.1 && !p.1.sameKey kl)).map (·.2))) := by
        have h5 := (vis_step hlk (by rw [hkl]; exact keyLit_way _) H.out.keys hfG).map (fun p : Lit × Fl => p.2)
        refine List.Perm.trans ?_ h5.symm
        exact (List.perm_append_comm).trans ((hP.out.cons f))
      have HLT : Hid (cnt1 < cnt) := hlt
      have hacc : acc.length + 1 ≤ 1000000 := by
        have h6 := hP.out.length_eq
        have h7 := List.length_filter_le (fun p : Lit × Fl => !left p.1) G
        have h8 := H.out.len
        have h9 := H.out.ok.few
        have h10 := H.out.ok.most
        simp only [List.length_map] at h6
        omega
      have Qe6 : But (fun _ => False) We6 We6 := But.refl _ _
      clear hrg1 hl hkl hkf hlt hv hat hy hhas hv2 hfG hs1 hg1 hkey hlk
      obtain ⟨Wm7, hWm7⟩ : ∃ W, We6.alloc (.cells #[.int .i64 0, .int .i64 0, .int .i64 0, .int .u64 0, .int .u64 0, .int .i64 0, .int .u64 0, .int .u64 0, .int .i64 0, .int .i64 0, .int .i64 0, .int .u32 0, .int .u32 0, .int .u32 0, .int .u32 0, .bool false, .bool false, .bool false, .bool false, .int .i64 0, .int .i64 0, .bool false] 33) = W := ⟨_, rfl⟩
      have bm7 := bel_al be6 hWm7
      have Qm7 := Qe6.al hWm7
      have Am7 := blk_nw hWm7
      have gA : w.heap.size ≤ We6.heap.size := be6.size
      have nQA : (fun _ => False) We6.heap.size ∨ We6.heap.size ≤ We6.heap.size := .inr Qe6.size
      obtain ⟨Wm8, hWm8⟩ : ∃ W, Wm7.setRow We6.heap.size f.v = W := ⟨_, rfl⟩
      have Am8 : Blk Wm8 We6.heap.size 33 f.v := hWm8 ▸ Am7.set f.v
      have Qm8 := hWm8 ▸ Qm7.other nQA f.v
      have bm8 := hWm8 ▸ below_setRow bm7 gA f.v
      obtain ⟨Wm9, hWm9⟩ : ∃ W, Wm8.alloc (.cells f.v 33) = W := ⟨_, rfl⟩
      have bm9 := bel_al bm8 hWm9
      have Qm9 := Qm8.al hWm9
      have Am9 := Am8.al hWm9
      have Bm9 := blk_nw hWm9
      have gB : w.heap.size ≤ Wm8.heap.size := bm8.size
      have nQB : (fun _ => False) Wm8.heap.size ∨ We6.heap.size ≤ Wm8.heap.size := .inr Qm8.size
      have nAB : We6.heap.size ≠ Wm8.heap.size := by have := Am8.lt; omega
      have nBA : Wm8.heap.size ≠ We6.heap.size := fun e => nAB e.symm
      have Om9 : OwnL Wm9 w.heap.size (some ⟨g, 0, none⟩) c acc := HO1.out.at_ (fun y hy => Qm9.block y.block (HO1.out.lt_size y hy) (fun x => x))
      go_wp2_with (first | (refine wpList_store_row rfl _ _ _ rfl We6.heap.size f.v (by rfl) (by rfl) _ _ Am7 (by kernel_rfl) (by rfl) (by kernel_rfl) ?_; rw [hWm8]) | (refine wpList_load_blk_w (by rfl) _ _ rfl We6.heap.size (by rfl) _ Am8 Try.underlying33 (by kernel_rfl) ?_) | (refine wpList_appL _ rfl _ _ rfl w.heap.size (some ⟨g, 0, none⟩) c acc (by rfl) Om9 Wm8.heap.size 1 f (by rfl) Bm9.at_ (Nat.le_trans hacc (by decide)) bm9.size ?_; intro ga ca Wa10 Oa10 bl Hg9; have HG9 : Hid _ := Hg9))
      have RQ := ranges_but HG1.out Qm9 (fun x => x) (fun x => x)
      have RA := RQ.kept HG9.out (fun e => (own_ne RQ Om9 _ rfl).1 (by simpa using e.symm)) (fun e => (own_ne RQ Om9 _ rfl).2 (by simpa using e.symm))
      refine ⟨⟨fun z => left z && !z.sameKey kl, cnt1, ga, ca, acc ++ [f], by simp, RA, Oa10, HP1, bm9.trans bl⟩, ?_⟩
      rw [RA.left_eq, hrg.out.left_eq]; exact HLT.out
structure TabX (w : World) (tb mb : Nat) (s : Ft) : Prop where
  ex : ∃ G, TabF w tb mb s G
theorem TabX.ok {w : World} {tb mb : Nat} {s : Ft} (h : TabX w tb mb s) : FtOk s := by obtain ⟨G, T⟩ := h.ex; exact T.ok
theorem TabX.lt {w : World} {tb mb : Nat} {s : Ft} (h : TabX w tb mb s) : tb < w.heap.size ∧ mb < w.heap.size := by obtain ⟨G, T⟩ := h.ex; exact ⟨T.tab.lt, T.map.lt⟩
theorem TabX.but {F : Nat → Prop} {w w' : World} {tb mb : Nat} {s : Ft} (h : TabX w tb mb s) (b : But F w w') (h1 : ¬ F tb) (h2 : ¬ F mb) : TabX w' tb mb s := by obtain ⟨G, T⟩ := h.ex; exact ⟨G, T.but b h1 h2⟩
theorem TabX.kept {w w' : World} {tb mb : Nat} {s : Ft} (h : TabX w tb mb s) (b : Below w.heap.size w w') : TabX w' tb mb s := h.but (But.of_below b (fun _ => False)) (fun x => x) (fun x => x)
theorem TabX.al {w w' : World} {tb mb : Nat} {s : Ft} {o : Obj} (h : TabX w tb mb s) (e : w.alloc o = w') : TabX w' tb mb s := h.kept (bel_nw e)
theorem TabX.drew {w : World} {tb mb : Nat} {s : Ft} (h : TabX w tb mb s) : TabX w.drew tb mb s := h.kept (Below.refl _ _).drew
theorem TabX.other {w : World} {tb mb g : Nat} {s : Ft} (h : TabX w tb mb s) (hn : tb ≠ g ∧ mb ≠ g) (cs : Array Value) : TabX (w.setRow g cs) tb mb s := h.but ((But.refl (fun k => k = g) w).setRow g (.inl rfl) cs) hn.1 hn.2
theorem bel_but {w W W' : World} {tb mb : Nat} (b : Below w.heap.size w W) (k : But (fun k => k = tb ∨ k = mb) W W') (h1 : w.heap.size ≤ tb) (h2 : w.heap.size ≤ mb) : Below w.heap.size w W' := b.trans (k.to_below b.size (fun i hi h => by omega))
theorem putX (tb mb : Nat) (s : Ft) (f : Fl) (w : World) (T : TabX w tb mb s) (hk : f.w.kf) : Calls Try.prog 25 #[.pointer (some ⟨tb, 0, none⟩), .agg f.v] w fun e w' => e = .returned (.int .i64 (s.put f).2) ∧ TabX w' tb mb (s.put f).1 ∧ But (fun k => k = tb ∨ k = mb) w w' := by
  obtain ⟨G, T⟩ := T.ex
  exact (put_at_fw tb mb s G f w T hk).mono fun e w' ⟨h1, h2, h3⟩ => ⟨h1, ⟨h2⟩, h3⟩
theorem tickX (tb mb : Nat) (s : Ft) (now : Int) (w : World) (T : TabX w tb mb s) : Calls Try.prog 24 #[.pointer (some ⟨tb, 0, none⟩), .int .i64 now] w fun e w' => e = .returned (.int .i64 (s.tick now).2) ∧ TabX w' tb mb (s.tick now).1 ∧ But (fun k => k = tb ∨ k = mb) w w' := by
  obtain ⟨G, T⟩ := T.ex
  exact (tick_at_fw tb mb s G now w T).mono fun e w' ⟨h1, h2, h3⟩ => ⟨h1, ⟨h2⟩, h3⟩
theorem lenX (tb mb : Nat) (s : Ft) (w : World) (T : TabX w tb mb s) : Calls Try.prog 20 #[.pointer (some ⟨tb, 0, none⟩)] w fun e w' => e = .returned (.int .i64 (s.L.length : Int)) ∧ Below w.heap.size w w' := by
  obtain ⟨G, T⟩ := T.ex
  exact len_at_fw tb mb s G w T T.ne T.tab T.map
theorem nowX (tb mb : Nat) (s : Ft) (w : World) (T : TabX w tb mb s) : Calls Try.prog 21 #[.pointer (some ⟨tb, 0, none⟩)] w fun e w' => e = .returned (.int .i64 s.now) ∧ Below w.heap.size w w' := by
  obtain ⟨G, T⟩ := T.ex
  exact now_at_fw tb mb s G w T T.ne T.tab T.map
theorem allX (tb mb : Nat) (s : Ft) (w : World) (T : TabX w tb mb s) : Calls Try.prog 23 #[.pointer (some ⟨tb, 0, none⟩)] w fun e w' => ∃ a c, e = .returned (.slice a s.L.length c) ∧ OwnL w' w.heap.size a c s.L ∧ Below w.heap.size w w' := by
  obtain ⟨G, T⟩ := T.ex
  exact all_at_fw tb mb s G w T
set_option maxRecDepth 100000 in
theorem new_y0 (m : Int) (h0 : 0 ≤ m) (h1 : m ≤ 256) (w : World) : Calls Try.prog 17 #[.int .i64 m] w fun e w' => e = .returned (.tuple #[.pointer (some ⟨w.heap.size + 1, 0, none⟩), .int .i64 0]) ∧ TabX w' (w.heap.size + 1) w.heap.size ⟨m, 0, []⟩ ∧ Below w.heap.size w w' := by
  have hmm := @run_makeMap Try.prog
  obtain ⟨W1, hW1⟩ : ∃ W, w.alloc (.map #[] 0) = W := ⟨_, rfl⟩
  have z1 : W1.heap.size = w.heap.size + 1 := by rw [← hW1]; simp
  have b1 := bel_nw hW1
  have M1 : MapF W1 w.heap.size [] := ⟨by rw [← hW1]; exact World.ownsMap_made w _ _ _⟩
  obtain ⟨W2, hW2⟩ : ∃ W, W1.alloc (.cells (tabV ⟨m, 0, []⟩ w.heap.size) 77) = W := ⟨_, rfl⟩
  have b2 := bel_al b1 hW2
  have M2 := M1.al hW2
  have T2 := blk_nw hW2
  have hb : (Instr.build 77 #[(0, .bool true), (1, .int .i64 m), (3, .map (some w.heap.size))]).run Try.prog W1 = .ok (.agg (tabV ⟨m, 0, []⟩ w.heap.size)) W1 := by kernel_rfl
  have i0 : ¬ m < 0 := by omega
  have i1 : ¬ m > 256 := by omega
  go_enter Try.func17, Try.ntmps17
  go_wp2
  go_ret2
  rw [z1] at T2
  exact ⟨rfl, ⟨_, T2, M2, by omega, new_ok ⟨h0, h1⟩, List.Pairwise.nil, by simp, by simp⟩, b2⟩
theorem new_y_fw (m : Int) (h0 : 0 ≤ m) (h1 : m ≤ 256) (w : World) : Calls Try.prog 17 #[.int .i64 m] w fun e w' => ∃ tb mb, e = .returned (.tuple #[.pointer (some ⟨tb, 0, none⟩), .int .i64 0]) ∧ TabX w' tb mb ⟨m, 0, []⟩ ∧ w.heap.size ≤ tb ∧ w.heap.size ≤ mb ∧ Below w.heap.size w w' :=
  (new_y0 m h0 h1 w).mono fun e w' ⟨h1, h2, h3⟩ => ⟨_, _, h1, h2, Nat.le_succ _, Nat.le_refl _, h3⟩
theorem new_n_fw (m : Int) (h : ¬ (0 ≤ m ∧ m ≤ 256)) (w : World) : Calls Try.prog 17 #[.int .i64 m] w fun e w' => e = .returned (.tuple #[.pointer none, .int .i64 1]) ∧ Below w.heap.size w w' := by
  go_enter Try.func17, Try.ntmps17
  by_cases h0 : m < 0
  · go_wp2
    go_ret2
    exact ⟨rfl, Below.refl _ _⟩
  · have h1 : m > 256 := by omega
    go_wp2
    go_ret2
    exact ⟨rfl, Below.refl _ _⟩
theorem cells_pre {W : World} {b k : Nat} {f : Fl} (h : CellsAt W b k f.v) : CellsAt W b k f.w.v := ⟨h.1, fun j v hj => h.2 j v (by
  have hj' : j < 10 := (Array.getElem?_eq_some_iff.1 hj).1
  rw [← hj]
  match j, hj' with
  | 0, _ => rfl
  | 1, _ => rfl
  | 2, _ => rfl
  | 3, _ => rfl
  | 4, _ => rfl
  | 5, _ => rfl
  | 6, _ => rfl
  | 7, _ => rfl
  | 8, _ => rfl
  | 9, _ => rfl)⟩
theorem tick_most (s : Ft) (n : Int) : (s.tick n).1.most = s.most := by unfold Ft.tick; split <;> rfl
theorem put_most (s : Ft) (f : Fl) : (s.put f).1.most = s.most := by unfold Ft.put; (repeat' split) <;> rfl
theorem OwnL.le {w : World} {B : Nat} {a : Option Addr} {c : Nat} {l : List Fl} (h : OwnL w B a c l) : l.length ≤ c := by
  obtain ⟨h1, h2⟩ := h
  rcases h2 with ⟨h3, h4⟩ | ⟨g, cap, cur, h3, h4, h5, h6, h7⟩
  · omega
  · simp only [Value.slice.injEq] at h3
    obtain ⟨_, _, rfl⟩ := h3
    exact h6
theorem ft_before {s : Ft} (h : FtOk s) {i k : Nat} {x y : Fl} (hk : s.L[k]? = some x) (hi : s.L[i]? = some y) (hlt : i < k) : y.w.order x.w < 0 := by
  obtain ⟨h1, rfl⟩ := List.getElem?_eq_some_iff.1 hk
  obtain ⟨h2, rfl⟩ := List.getElem?_eq_some_iff.1 hi
  exact List.pairwise_iff_getElem.1 h.sorted i k h2 h1 hlt
theorem ft_apart {s : Ft} (h : FtOk s) {i k : Nat} {x y : Fl} (hk : s.L[k]? = some x) (hi : s.L[i]? = some y) (hlt : i < k) : Wy.eqB y.w x.w.rev = false := by
  cases e : Wy.eqB y.w x.w.rev with
  | false => rfl
  | true =>
    have e1 := h.apart x (List.mem_of_getElem? hk) y (List.mem_of_getElem? hi) ((Wy.eqB_iff _ _).1 e)
    have e2 := ft_before h hk hi hlt
    rw [e1, order_self] at e2
    omega
end Go.Proofs.Ytfiembbmgdmagaa
