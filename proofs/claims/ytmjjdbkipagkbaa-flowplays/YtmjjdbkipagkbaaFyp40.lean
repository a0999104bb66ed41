/- Texts joined: FwR -/
import Derived.Test.YtmjjdbkipagkbaaFyp39
import Derived.Maps.RangeWalk
import Derived.WalkKit
import Derived.OwnWalk
namespace Go.Proofs.Ytmjjdbkipagkbaa
open Go.RowKit
set_option linter.unusedVariables false
set_option linter.unusedSimpArgs false
theorem own_ne {w : World} {b r n : Nat} {D : DataW Value} {left : Lit → Bool} {cnt : Nat} (hr : w.ranges Try.prog 26 heldElem b r n D left cnt) {B : Nat} {a : Option Addr} {c : Nat} {l : List Fl} (h : OwnL w B a c l) : ∀ y, a = some y → y.block ≠ b ∧ y.block ≠ r := by
  intro y hy
  obtain ⟨es, clock, since, seen, c0, hb', F', hs, hD, hr', rest⟩ := hr
  obtain ⟨h1, h2⟩ := h
  rcases h2 with ⟨h2, _⟩ | ⟨g, cap, cur, h3, h4, h5, h6⟩
  · simp only [Value.slice.injEq] at h2
    rw [h2.1] at hy; cases hy
  · simp only [Value.slice.injEq] at h3
    rw [h3.1] at hy; cases hy
    refine ⟨fun e => ?_, fun e => ?_⟩
    · simp only at e
      rw [e, hb'] at h5
      cases h5
    · simp only at e
      rw [e, hr'] at h5
      cases h5
theorem wpList_makeL {ops : Array Oper} {rest : List Oper} {o : Oper} {ac : Act} {Q : Exit → Act → World → Prop} (w : World) (hgd : o.guard = none) (l c : Operand) (ho : o.op = Op.makeSlice 53 l c) (B n : Nat) (hl : ac.eval l = .int .i64 0) (hc : ac.eval c = .int .i64 (n : Int)) (hn : n ≤ 1000000) (hB : B ≤ w.heap.size)
    (h : ∀ w', OwnL w' B (some ⟨w.heap.size, 0, none⟩) n [] → w.grownBy w' none → wpList Try.prog ops Q rest (ac.put o.dst (.slice (some ⟨w.heap.size, 0, none⟩) 0 n)) w') : wpList Try.prog ops Q (o :: rest) ac w := by
  obtain ⟨i0, hi, hz0, hz1, hz2⟩ := info_parts info_flow
  exact wpList_make_own w hgd l c 53 ho B 33 i0 _ 22 Try.underlying53 hi hz0 hz1 .i64 .i64 (n : Int) n hl hc rfl (by rw [hz2]; omega) (by unfold maxLen; omega) hB h
theorem vis_step {k : Lit} {f : Fl} {left : Lit → Bool} (hl : left k = true) (hk : WideAt.IsKeyLit k) : ∀ {G : List (Lit × Fl)}, Keys G → (k, f) ∈ G → (G.filter fun p => !(left p.1 && !p.1.sameKey k)).Perm ((k, f) :: G.filter fun p => !left p.1)
  | [], _, h => by cases h
  | y :: r, hK, h => by
    obtain ⟨h1, h2⟩ := List.pairwise_cons.1 hK
    rcases List.mem_cons.1 h with e | h'
    · subst e
      have e1 : (r.filter fun p => !(left p.1 && !p.1.sameKey k)) = r.filter fun p => !left p.1 := by
        refine List.filter_congr fun p hp => ?_
        have : p.1.sameKey k = false := by
          cases hs : p.1.sameKey k with
          | false => rfl
          | true => exact absurd (same_eq hs).symm (h1 p hp)
        rw [this]; simp
      rw [List.filter_cons, if_pos (by rw [same_self' hk]; simp), List.filter_cons, if_neg (by simp [hl]), e1]
    · have hne : y.1.sameKey k = false := by
        cases hs : y.1.sameKey k with
        | false => rfl
        | true => exact absurd (same_eq hs) (h1 _ h')
      have ih := vis_step hl hk h2 h'
      cases hy : left y.1
      · rw [List.filter_cons, if_pos (by simp [hy]), List.filter_cons, if_pos (by simp [hy])]
        exact (ih.cons y).trans (.swap _ _ _)
      · rw [List.filter_cons, if_neg (by simp [hy, hne]), List.filter_cons, if_neg (by simp [hy])]
        exact ih
theorem sort_strict {L M : List Fl} (hp : M.Perm L) (hL : SortF L) (hM : M.Pairwise fun p q => ¬ q.w.order p.w < 0) : M = L := by
  have hn : L.Pairwise fun p q => p.w ≠ q.w := hL.imp fun h => order_lt_ne h
  have hn2 : M.Pairwise fun p q => p.w ≠ q.w := (hp.pairwise_iff (fun {a b} (h : a.w ≠ b.w) => h.symm)).2 hn
  have hs : SortF M := (hM.and hn2).imp fun h => order_gt h.1 (fun e => h.2 e.symm)
  exact sort_eq hp hs hL
set_option maxRecDepth 100000 in
set_option maxHeartbeats 16000000 in
theorem all_at_fw (tb mb : Nat) (s : Ft) (G : List (Lit × Fl)) (w : World) (H0 : TabF w tb mb s G) :
    Calls Try.prog 23 #[.pointer (some ⟨tb, 0, none⟩)] w fun e w' => ∃ a c, e = .returned (.slice a s.L.length c) ∧ OwnL w' w.heap.size a c s.L ∧ Below w.heap.size w w' := by
  have nTM : tb ≠ mb := H0.ne
  have T := H0.tab
  have M := H0.map
  have H : Hid (TabF w tb mb s G) := H0
  clear H0
  have nMT : mb ≠ tb := fun e => nTM e.symm
  obtain ⟨R, hR⟩ : ∃ R, (0 : Int) = R := ⟨_, rfl⟩
  have HR : Hid ((0 : Int) = R) := hR
  try rw [hR]
  clear hR
  have b := Below.refl w.heap.size w
  go_enter Try.func23, Try.ntmps23
  go_wp2_with fail
  refine Calls.mono (made_at tb mb s _ T) ?_
  rintro e Wm1 ⟨rfl, bb⟩
  have Tm1 := T.kept bb
  have Mm1 := M.kept bb
  have bm1 := bel_tr b bb
  clear bb
  have c2 := Tm1.cell 3 (.map (some mb)) rfl
  have hL3 := len_at (ty := 3) H.out Mm1
  go_wp2_with (first | (refine wpList_makeL _ rfl _ _ rfl w.heap.size s.L.length (by rfl) (by rfl) (by have h9 := H.out.ok.few; have h8 := H.out.ok.most; omega) bm1.size ?_; intro Wg4 Og4 gm; have Tg4 : Blk Wg4 tb 77 (tabV s mb) := (gm.block tb Tm1.lt (by simp)).trans Tm1; have Mg4 : MapF Wg4 mb G := Mm1.but (F := fun _ => False) ((But.refl _ _).grown gm (fun n hn => by cases hn)) (fun x => x); have bg4 : Below w.heap.size w Wg4 := bm1.grown gm bm1.size (fun k hk => by cases hk); have c5 := Tg4.cell 3 (.map (some mb)) rfl) | (at_range; refine wpList_range_own _ rfl _ 75 rfl 26 33 keyWay Try.underlying75 heldElem mb G.length (toDF G) (by rfl) Mg4.own ?_; intro w0 hrg0 hg0 hs0))
  try go_frame
  have grr : w.heap.size ≤ Wg4.heap.size := bg4.size
  go_loopw [3] (fun v wr => ∃ left cnt g c acc, v = .slice (some ⟨g, 0, none⟩) (List.length acc) c ∧ Hid (wr.ranges Try.prog 26 heldElem mb Wg4.heap.size G.length (toDF G) left cnt) ∧ Hid (OwnL wr w.heap.size (some ⟨g, 0, none⟩) c acc) ∧ Hid (acc.Perm ((G.filter fun p => !left p.1).map (·.2))) ∧ Below w.heap.size w wr) (fun _ wr => wr.rangeLeft mb Wg4.heap.size)
  case atStart =>
    refine ⟨Maps.has (toDF G), Maps.size (toDF G), Wm1.heap.size, s.L.length, [], rfl, hrg0, ?_, ?_, bg4.grown hg0 bg4.size (fun k hk => by cases hk)⟩
    · exact Og4.at_ (fun y hy => hg0.block y.block (Og4.lt_size y hy) (by simp))
    · have e0 : (G.filter fun p => !(Maps.has (toDF G) p.1)) = [] := by
        refine List.filter_eq_nil_iff.2 fun p hp => ?_
        have : Maps.has (toDF G) p.1 = true := by
          rw [Maps.has_eq]
          exact List.any_eq_true.2 ⟨(p.1, .held (.agg p.2.v)), List.mem_map.2 ⟨p, hp, rfl⟩, WideAt.sameKey_self (by rw [H.out.key p hp]; exact keyLit_way _)⟩
        simp [this]
      rw [e0]
      exact List.Perm.refl _
  case round =>
    obtain ⟨left, cnt, g, c, acc, rfl, hrg, hO, hP, br⟩ := hrel
    clear hrg0 hg0 hs0
    obtain ⟨Wr, rfl⟩ : ∃ W, W = wr := ⟨_, rfl⟩
    go_wp2_with (at_next; refine wpList_next_ranges _ rfl _ rfl 26 keyWay heldElem (fun v : Value => v) (fun v : Value => v) (fun key kl hk => ⟨key, rfl⟩) (fun v y _ => ⟨v, rfl⟩) mb Wg4.heap.size G.length _ _ _ (by rfl) hrg.out ?_ ?_)
    · intro hc0 hl0
      go_wp2_with fail
      have e9 : (G.filter fun p => !left p.1) = G := List.filter_eq_self.2 fun p _ => by rw [hl0]; rfl
      have hP9 := hP.out
      rw [e9] at hP9
      have hPL : acc.Perm s.L := hP9.trans H.out.perm
      have hlen : acc.length = s.L.length := hPL.length_eq
      have hle : acc.length ≤ 1048576 := by have h9 := H.out.ok.few; have h10 := H.out.ok.most; omega
      refine Calls.mono (sort_fls _ w.heap.size g c acc hO.out br.size hle) ?_
      rintro e Wf ⟨rfl, l2, hp2, hs2, O2, b2⟩
      have e2 : l2 = s.L := sort_strict (hp2.trans hPL) H.out.ok.sorted hs2
      subst e2
      go_wp2
      go_ret
      exact ⟨some ⟨g, 0, none⟩, c, by rw [← hlen]; rfl, O2, br.trans b2⟩

    · intro x c9 kl y y2 We6 cnt1 hkey hlk hv hat hrg1 hlt hg1 hs1 hen
      have hy : y = .held c9 := by
        simp only [heldElem, Option.some.injEq, Prod.mk.injEq] at hv
        exact hv.1.symm
      have hhas : Maps.has (toDF G) kl = true := Maps.has_true_of_atKey hat
      rw [toDF_has] at hhas
      obtain ⟨f, hl⟩ := Option.isSome_iff_exists.1 hhas
      have hv2 : (toDF G).atKey kl (.held (.agg fl0.v)) = .held (.agg f.v) := by rw [toDF_at, hl]; rfl
      have hc : c9 = .agg f.v := by
        have h3 := (hat (.held (.agg fl0.v))).symm.trans hv2
        rw [hy] at h3
        injection h3
      subst hc
      have hfG : (kl, f) ∈ G := look_mem hl
      have hkf := H.out.kf hfG
      have hkl : kl = keyW f.w := H.out.key _ hfG
      have hx : x = .agg f.w.v := keyWay.inj hkey (by rw [hkl]; exact key_way f.w hkf)
      subst hx
      have be6 : Below w.heap.size w We6 := br.grown hg1 br.size (fun k hk => by cases hk; exact grr)
      have HG1 : Hid (We6.ranges Try.prog 26 heldElem mb Wg4.heap.size G.length (toDF G) (fun z => left z && !z.sameKey kl) cnt1) := hrg1
      have HO1 : Hid (OwnL We6 w.heap.size (some ⟨g, 0, none⟩) c acc) := hO.out.at_ (fun y hy => hg1.block y.block (hO.out.lt_size y hy) (fun e => (own_ne hrg.out hO.out y hy).2 (by injection e)))
      have HP1 : Hid ((acc ++ [f]).Perm ((G.filter fun p => !(left p.1 && !p.1.sameKey kl)).map (·.2))) := by
        have h5 := (vis_step hlk (by rw [hkl]; exact keyLit_way _) H.out.keys hfG).map (fun p : Lit × Fl => p.2)
        refine List.Perm.trans ?_ h5.symm
        exact (List.perm_append_comm).trans ((hP.out.cons f))
      have HLT : Hid (cnt1 < cnt) := hlt
      have hacc : acc.length + 1 ≤ 1000000 := by
        have h6 := hP.out.length_eq
        have h7 := List.length_filter_le (fun p : Lit × Fl => !left p.1) G
        have h8 := H.out.len
        have h9 := H.out.ok.few
        have h10 := H.out.ok.most
        simp only [List.length_map] at h6
        omega
      have Qe6 : But (fun _ => False) We6 We6 := But.refl _ _
      clear hrg1 hl hkl hkf hlt hv hat hy hhas hv2 hfG hs1 hg1 hkey hlk
      obtain ⟨Wm7, hWm7⟩ : ∃ W, We6.alloc (.cells #[.int .i64 0, .int .i64 0, .int .i64 0, .int .u64 0, .int .u64 0, .int .i64 0, .int .u64 0, .int .u64 0, .int .i64 0, .int .i64 0, .int .i64 0, .int .u32 0, .int .u32 0, .int .u32 0, .int .u32 0, .bool false, .bool false, .bool false, .bool false, .int .i64 0, .int .i64 0, .bool false] 33) = W := ⟨_, rfl⟩
      have bm7 := bel_al be6 hWm7
      have Qm7 := Qe6.al hWm7
      have Am7 := blk_nw hWm7
      have gA : w.heap.size ≤ We6.heap.size := be6.size
      have nQA : (fun _ => False) We6.heap.size ∨ We6.heap.size ≤ We6.heap.size := .inr Qe6.size
      obtain ⟨Wm8, hWm8⟩ : ∃ W, Wm7.setRow We6.heap.size f.v = W := ⟨_, rfl⟩
      have Am8 : Blk Wm8 We6.heap.size 33 f.v := hWm8 ▸ Am7.set f.v
      have Qm8 := hWm8 ▸ Qm7.other nQA f.v
      have bm8 := hWm8 ▸ below_setRow bm7 gA f.v
      obtain ⟨Wm9, hWm9⟩ : ∃ W, Wm8.alloc (.cells f.v 33) = W := ⟨_, rfl⟩
      have bm9 := bel_al bm8 hWm9
      have Qm9 := Qm8.al hWm9
      have Am9 := Am8.al hWm9
      have Bm9 := blk_nw hWm9
      have gB : w.heap.size ≤ Wm8.heap.size := bm8.size
      have nQB : (fun _ => False) Wm8.heap.size ∨ We6.heap.size ≤ Wm8.heap.size := .inr Qm8.size
      have nAB : We6.heap.size ≠ Wm8.heap.size := by have := Am8.lt; omega
      have nBA : Wm8.heap.size ≠ We6.heap.size := fun e => nAB e.symm
      have Om9 : OwnL Wm9 w.heap.size (some ⟨g, 0, none⟩) c acc := HO1.out.at_ (fun y hy => Qm9.block y.block (HO1.out.lt_size y hy) (fun x => x))
      go_wp2_with (first | (refine wpList_store_row rfl _ _ _ rfl We6.heap.size f.v (by rfl) (by rfl) _ _ Am7 (by kernel_rfl) (by rfl) (by kernel_rfl) ?_; rw [hWm8]) | (refine wpList_load_blk_w (by rfl) _ _ rfl We6.heap.size (by rfl) _ Am8 Try.underlying33 (by kernel_rfl) ?_) | (refine wpList_appL _ rfl _ _ rfl w.heap.size (some ⟨g, 0, none⟩) c acc (by rfl) Om9 Wm8.heap.size 1 f (by rfl) Bm9.at_ (Nat.le_trans hacc (by decide)) bm9.size ?_; intro ga ca Wa10 Oa10 bl Hg9; have HG9 : Hid _ := Hg9))
      have RQ := ranges_but HG1.out Qm9 (fun x => x) (fun x => x)
      have RA := RQ.kept HG9.out (fun e => (own_ne RQ Om9 _ rfl).1 (by simpa using e.symm)) (fun e => (own_ne RQ Om9 _ rfl).2 (by simpa using e.symm))
      refine ⟨⟨fun z => left z && !z.sameKey kl, cnt1, ga, ca, acc ++ [f], by simp, RA, Oa10, HP1, bm9.trans bl⟩, ?_⟩
      rw [RA.left_eq, hrg.out.left_eq]; exact HLT.out
end Go.Proofs.Ytmjjdbkipagkbaa
