/- Texts joined: FwQ -/
import Derived.Test.YtmjjdbkipagkbaaFyp8
import Derived.Test.YtmjjdbkipagkbaaFyp38
import Derived.Test.YtmjjdbkipagkbaaShelf
import Derived.Deep.AppendLies
import Derived.Sort.OwnSortedInts
namespace Go.Proofs.Ytmjjdbkipagkbaa
open Go.RowKit
set_option linter.unusedVariables false
set_option linter.unusedSimpArgs false
/-- w' is w with draws and new blocks. -/
structure Gr (w w' : World) : Prop where
  bel : Below w.heap.size w w'
  drn : w.drawn ≤ w'.drawn
theorem Gr.refl (w : World) : Gr w w := ⟨Below.refl _ _, Nat.le_refl _⟩
theorem Gr.drew {w w' : World} (h : Gr w w') : Gr w w'.drew := ⟨h.bel.drew, Nat.le_trans h.drn (Nat.le_succ _)⟩
theorem Gr.alloc {w w' : World} (h : Gr w w') (o : Obj) : Gr w (w'.alloc o) := ⟨h.bel.alloc h.bel.size _, h.drn⟩
theorem gr_tr {a b c : World} (h : Gr a b) (k : Gr b c) : Gr a c := ⟨bel_tr h.bel k.bel, Nat.le_trans h.drn k.drn⟩
theorem gr_two (w : World) (X Y : Obj) : Gr w ((w.alloc X).alloc Y) := ((Gr.refl w).alloc X).alloc Y
theorem gr_grow {w w' : World} (h : Gr w w') : ∃ n os, w' = Sort.grow (w.drewN n) os := by
  refine ⟨w'.drawn - w.drawn, w'.heap.extract w.heap.size w'.heap.size, ?_⟩
  have e1 : w'.heap = w.heap ++ w'.heap.extract w.heap.size w'.heap.size := by
    apply Array.ext_getElem?
    intro i
    have hs := h.bel.size
    by_cases hi : i < w.heap.size
    · rw [Array.getElem?_append_left hi, h.bel.block i hi]
    · rw [Array.getElem?_append_right (by omega), Array.getElem?_extract]
      split
      · congr 1; omega
      · rw [Array.getElem?_eq_none (by omega)]
  cases w' with
  | mk heap tape drawn os output =>
    have h1 : os = w.os := h.bel.os
    have h2 : tape = w.tape := h.bel.tape
    have h3 : output = w.output := h.bel.output
    have h4 : w.drawn ≤ drawn := h.drn
    simp only at e1
    unfold Sort.grow World.drewN
    simp only [World.mk.injEq]
    refine ⟨e1, h2, by omega, h1, h3⟩
set_option maxRecDepth 100000 in
set_option maxHeartbeats 1000000 in
theorem orderG_any (f h l f' h' l' : Int) (w : World) :
    Calls Try.prog 77 #[.agg #[.int .i64 f, .int .u64 h, .int .u64 l], .agg #[.int .i64 f', .int .u64 h', .int .u64 l']] w fun e w' => e = .returned (.int .i64 (Ad.order ⟨f, h, l⟩ ⟨f', h', l'⟩)) ∧ Gr w w' := by
  have k1 := cmpI_any f f'
  have k2 := cmpU_any h h'
  have k3 := cmpU_any l l'
  have ko : Ad.order ⟨f, h, l⟩ ⟨f', h', l'⟩ = if cmp3 f f' = 0 then (if cmp3 h h' = 0 then cmp3 l l' else cmp3 h h') else cmp3 f f' := rfl
  rw [ko]
  generalize cmp3 f f' = x at *
  generalize cmp3 h h' = y at *
  generalize cmp3 l l' = z at *
  obtain ⟨T, hT⟩ : ∃ T, (if x = 0 then (if y = 0 then z else y) else x) = T := ⟨_, rfl⟩
  rw [hT]
  clear ko
  have kor : ∀ (b c : Nat) (w : World), w.cell? ⟨b, 0, none⟩ = some (.int .i64 x) → w.cell? ⟨b, 1, none⟩ = some (.int .i64 y) → w.cell? ⟨b, 2, none⟩ = some (.int .i64 z) → Calls Try.prog 95 #[.slice (some ⟨b, 0, none⟩) 3 c] w fun e w' => e = .returned (.int .i64 T) ∧ w' = w := fun b c w h0 h1 h2 => by
    have := or_any 0 x y z b w h0 h1 h2 c
    rwa [hT] at this
  clear hT
  go_enter Try.func77, Try.ntmps77
  go_wp2
  go_region_held3 (fun w'' => w''.cell? ⟨w.heap.size, 0, none⟩ = some (.int .i64 f) ∧ w''.cell? ⟨w.heap.size, 1, none⟩ = some (.int .u64 h) ∧ w''.cell? ⟨w.heap.size, 2, none⟩ = some (.int .u64 l) ∧ w''.cell? ⟨w.heap.size + 1, 0, none⟩ = some (.int .i64 f') ∧ w''.cell? ⟨w.heap.size + 1, 1, none⟩ = some (.int .u64 h') ∧ w''.cell? ⟨w.heap.size + 1, 2, none⟩ = some (.int .u64 l')) (go_keep) (first
    | (go_at_call 76; refine (k1 _).mono ?_; rintro e w' ⟨rfl, rfl⟩)
    | (go_at_call 96; (with_reducible show Calls _ _ #[Value.int _ h, _] _ _); refine (k2 _).mono ?_; rintro e w' ⟨rfl, rfl⟩)
    | (go_at_call 96; refine (k3 _).mono ?_; rintro e w' ⟨rfl, rfl⟩)
    | (go_at_call 95; refine (kor _ _ _ (by simp [go_sem]) (by simp [go_sem]) (by simp [go_sem])).mono ?_; rintro e w' ⟨rfl, rfl⟩))
  all_goals go_wp2
  all_goals go_ret
  all_goals exact ⟨rfl, by repeat (first | exact Gr.refl _ | refine Gr.drew ?_ | refine Gr.alloc ?_ _)⟩
set_option maxRecDepth 100000 in
set_option maxHeartbeats 2000000 in
theorem orderG_t (a b : Wy) (w : World) :
    Calls Try.prog 54 #[.agg a.v, .agg b.v] w fun e w' => e = .returned (.int .i64 (a.order b)) ∧ Gr w w' := by
  obtain ⟨f, pr, ⟨sf, sh, sl⟩, ⟨df, dh, dl⟩, sp, dp⟩ := a
  obtain ⟨f', pr', ⟨sf', sh', sl'⟩, ⟨df', dh', dl'⟩, sp', dp'⟩ := b
  obtain ⟨T, hT⟩ : ∃ T, Wy.order ⟨f, pr, ⟨sf, sh, sl⟩, ⟨df, dh, dl⟩, sp, dp⟩ ⟨f', pr', ⟨sf', sh', sl'⟩, ⟨df', dh', dl'⟩, sp', dp'⟩ = T := ⟨_, rfl⟩
  rw [hT]
  have HT : Hid ((if f = f' then (if pr = pr' then (if Ad.same ⟨sf, sh, sl⟩ ⟨sf', sh', sl'⟩ = true then (if Ad.same ⟨df, dh, dl⟩ ⟨df', dh', dl'⟩ = true then (if sp = sp' then cmp3 dp dp' else cmp3 sp sp') else Ad.order ⟨df, dh, dl⟩ ⟨df', dh', dl'⟩) else Ad.order ⟨sf, sh, sl⟩ ⟨sf', sh', sl'⟩) else cmp3 pr pr') else cmp3 f f') = T) := hT
  clear hT
  by_cases h1 : f = f'
  case neg =>
    have T1 := HT.out
    rw [if_neg h1] at T1
    have n_ : (f == f') = false := by simpa using h1
    have T2 : Hid _ := T1
    clear HT T1
    have K := fun W => cmpI_any f f' W
    have b2 := gr_two w (.cells (Wy.v ⟨f, pr, ⟨sf, sh, sl⟩, ⟨df, dh, dl⟩, sp, dp⟩) 26) (.cells (Wy.v ⟨f', pr', ⟨sf', sh', sl'⟩, ⟨df', dh', dl'⟩, sp', dp'⟩) 26)
    go_enter Try.func54, Try.ntmps54
    go_wp2_with (go_at_call 76; refine (K _).mono ?_; rintro e w' ⟨rfl, rfl⟩)
    go_ret
    exact ⟨ret_int T2.out, b2⟩
  subst h1
  by_cases h2 : pr = pr'
  case neg =>
    have T1 := HT.out
    rw [if_pos rfl, if_neg h2] at T1
    have n_ : (pr == pr') = false := by simpa using h2
    have T2 : Hid _ := T1
    clear HT T1
    have K := fun W => cmpI_any pr pr' W
    have b2 := gr_two w (.cells (Wy.v ⟨f, pr, ⟨sf, sh, sl⟩, ⟨df, dh, dl⟩, sp, dp⟩) 26) (.cells (Wy.v ⟨f, pr', ⟨sf', sh', sl'⟩, ⟨df', dh', dl'⟩, sp', dp'⟩) 26)
    go_enter Try.func54, Try.ntmps54
    go_wp2_with (go_at_call 76; refine (K _).mono ?_; rintro e w' ⟨rfl, rfl⟩)
    go_ret
    exact ⟨ret_int T2.out, b2⟩
  subst h2
  by_cases h3f : sf = sf'
  case neg =>
    have T1 := HT.out
    rw [if_pos rfl, if_pos rfl, if_neg (Ad.same_no (fun e => h3f e.1))] at T1
    have n_ : (sf == sf') = false := by simpa using h3f
    have T2 : Hid _ := T1
    clear HT T1
    have K := fun W => orderG_any sf sh sl sf' sh' sl' W
    have b2 := gr_two w (.cells (Wy.v ⟨f, pr, ⟨sf, sh, sl⟩, ⟨df, dh, dl⟩, sp, dp⟩) 26) (.cells (Wy.v ⟨f, pr, ⟨sf', sh', sl'⟩, ⟨df', dh', dl'⟩, sp', dp'⟩) 26)
    go_enter Try.func54, Try.ntmps54
    go_wp2_with (go_at_call 77; refine (K _).mono ?_; rintro e w' ⟨rfl, bb⟩)
    go_ret
    exact ⟨ret_int T2.out, gr_tr b2 bb⟩
  subst h3f
  by_cases h3h : sh = sh'
  case neg =>
    have T1 := HT.out
    rw [if_pos rfl, if_pos rfl, if_neg (Ad.same_no (fun e => h3h e.2.1))] at T1
    have n_ : (sh == sh') = false := by simpa using h3h
    have T2 : Hid _ := T1
    clear HT T1
    have K := fun W => orderG_any sf sh sl sf sh' sl' W
    have b2 := gr_two w (.cells (Wy.v ⟨f, pr, ⟨sf, sh, sl⟩, ⟨df, dh, dl⟩, sp, dp⟩) 26) (.cells (Wy.v ⟨f, pr, ⟨sf, sh', sl'⟩, ⟨df', dh', dl'⟩, sp', dp'⟩) 26)
    go_enter Try.func54, Try.ntmps54
    go_wp2_with (go_at_call 77; refine (K _).mono ?_; rintro e w' ⟨rfl, bb⟩)
    go_ret
    exact ⟨ret_int T2.out, gr_tr b2 bb⟩
  subst h3h
  by_cases h3l : sl = sl'
  case neg =>
    have T1 := HT.out
    rw [if_pos rfl, if_pos rfl, if_neg (Ad.same_no (fun e => h3l e.2.2))] at T1
    have n_ : (sl == sl') = false := by simpa using h3l
    have T2 : Hid _ := T1
    clear HT T1
    have K := fun W => orderG_any sf sh sl sf sh sl' W
    have b2 := gr_two w (.cells (Wy.v ⟨f, pr, ⟨sf, sh, sl⟩, ⟨df, dh, dl⟩, sp, dp⟩) 26) (.cells (Wy.v ⟨f, pr, ⟨sf, sh, sl'⟩, ⟨df', dh', dl'⟩, sp', dp'⟩) 26)
    go_enter Try.func54, Try.ntmps54
    go_wp2_with (go_at_call 77; refine (K _).mono ?_; rintro e w' ⟨rfl, bb⟩)
    go_ret
    exact ⟨ret_int T2.out, gr_tr b2 bb⟩
  subst h3l
  by_cases h4f : df = df'
  case neg =>
    have T1 := HT.out
    rw [if_pos rfl, if_pos rfl, if_pos (Ad.same_yes _), if_neg (Ad.same_no (fun e => h4f e.1))] at T1
    have n_ : (df == df') = false := by simpa using h4f
    have T2 : Hid _ := T1
    clear HT T1
    have K := fun W => orderG_any df dh dl df' dh' dl' W
    have b2 := gr_two w (.cells (Wy.v ⟨f, pr, ⟨sf, sh, sl⟩, ⟨df, dh, dl⟩, sp, dp⟩) 26) (.cells (Wy.v ⟨f, pr, ⟨sf, sh, sl⟩, ⟨df', dh', dl'⟩, sp', dp'⟩) 26)
    go_enter Try.func54, Try.ntmps54
    go_wp2_with (go_at_call 77; refine (K _).mono ?_; rintro e w' ⟨rfl, bb⟩)
    go_ret
    exact ⟨ret_int T2.out, gr_tr b2 bb⟩
  subst h4f
  by_cases h4h : dh = dh'
  case neg =>
    have T1 := HT.out
    rw [if_pos rfl, if_pos rfl, if_pos (Ad.same_yes _), if_neg (Ad.same_no (fun e => h4h e.2.1))] at T1
    have n_ : (dh == dh') = false := by simpa using h4h
    have T2 : Hid _ := T1
    clear HT T1
    have K := fun W => orderG_any df dh dl df dh' dl' W
    have b2 := gr_two w (.cells (Wy.v ⟨f, pr, ⟨sf, sh, sl⟩, ⟨df, dh, dl⟩, sp, dp⟩) 26) (.cells (Wy.v ⟨f, pr, ⟨sf, sh, sl⟩, ⟨df, dh', dl'⟩, sp', dp'⟩) 26)
    go_enter Try.func54, Try.ntmps54
    go_wp2_with (go_at_call 77; refine (K _).mono ?_; rintro e w' ⟨rfl, bb⟩)
    go_ret
    exact ⟨ret_int T2.out, gr_tr b2 bb⟩
  subst h4h
  by_cases h4l : dl = dl'
  case neg =>
    have T1 := HT.out
    rw [if_pos rfl, if_pos rfl, if_pos (Ad.same_yes _), if_neg (Ad.same_no (fun e => h4l e.2.2))] at T1
    have n_ : (dl == dl') = false := by simpa using h4l
    have T2 : Hid _ := T1
    clear HT T1
    have K := fun W => orderG_any df dh dl df dh dl' W
    have b2 := gr_two w (.cells (Wy.v ⟨f, pr, ⟨sf, sh, sl⟩, ⟨df, dh, dl⟩, sp, dp⟩) 26) (.cells (Wy.v ⟨f, pr, ⟨sf, sh, sl⟩, ⟨df, dh, dl'⟩, sp', dp'⟩) 26)
    go_enter Try.func54, Try.ntmps54
    go_wp2_with (go_at_call 77; refine (K _).mono ?_; rintro e w' ⟨rfl, bb⟩)
    go_ret
    exact ⟨ret_int T2.out, gr_tr b2 bb⟩
  subst h4l
  by_cases h5 : sp = sp'
  case neg =>
    have T1 := HT.out
    rw [if_pos rfl, if_pos rfl, if_pos (Ad.same_yes _), if_pos (Ad.same_yes _), if_neg h5] at T1
    have n_ : (sp == sp') = false := by simpa using h5
    have T2 : Hid _ := T1
    clear HT T1
    have K := fun W => cmpI_any sp sp' W
    have b2 := gr_two w (.cells (Wy.v ⟨f, pr, ⟨sf, sh, sl⟩, ⟨df, dh, dl⟩, sp, dp⟩) 26) (.cells (Wy.v ⟨f, pr, ⟨sf, sh, sl⟩, ⟨df, dh, dl⟩, sp', dp'⟩) 26)
    go_enter Try.func54, Try.ntmps54
    go_wp2_with (go_at_call 76; refine (K _).mono ?_; rintro e w' ⟨rfl, rfl⟩)
    go_ret
    exact ⟨ret_int T2.out, b2⟩
  subst h5
  have T1 := HT.out
  rw [if_pos rfl, if_pos rfl, if_pos (Ad.same_yes _), if_pos (Ad.same_yes _), if_pos rfl] at T1
  have T2 : Hid _ := T1
  clear HT T1
  have K := fun W => cmpI_any dp dp' W
  have b2 := gr_two w (.cells (Wy.v ⟨f, pr, ⟨sf, sh, sl⟩, ⟨df, dh, dl⟩, sp, dp⟩) 26) (.cells (Wy.v ⟨f, pr, ⟨sf, sh, sl⟩, ⟨df, dh, dl⟩, sp, dp'⟩) 26)
  go_enter Try.func54, Try.ntmps54
  go_wp2_with (go_at_call 76; refine (K _).mono ?_; rintro e w' ⟨rfl, rfl⟩)
  go_ret
  exact ⟨ret_int T2.out, b2⟩
set_option maxRecDepth 100000 in
set_option maxHeartbeats 2000000 in
theorem all1_fw (x y : Fl) (w : World) : Calls Try.prog 53 #[.agg x.v, .agg y.v] w fun e w' => e = .returned (.int .i64 (x.w.order y.w)) ∧ Gr w w' := by
  have g2 := gr_two w (.cells x.v 33) (.cells y.v 33)
  obtain ⟨W1, hW1⟩ : ∃ W, w.alloc (.cells x.v 33) = W := ⟨_, rfl⟩
  have A1 := blk_nw hW1
  obtain ⟨W2, hW2⟩ : ∃ W, W1.alloc (.cells y.v 33) = W := ⟨_, rfl⟩
  have A2 := A1.al hW2
  have B2 := blk_nw hW2
  rw [hW1, hW2] at g2
  clear A1
  go_enter Try.func53, Try.ntmps53
  go_wp2_with (first | (refine wpList_load_sub_w (by rfl) _ _ rfl w.heap.size 0 _ (by rfl) _ x.w.v A2 (by rfl) Try.underlying26 (by kernel_rfl) ?_) | (refine wpList_load_sub_w (by rfl) _ _ rfl W1.heap.size 0 _ (by rfl) _ y.w.v B2 (by rfl) Try.underlying26 (by kernel_rfl) ?_))
  refine Calls.mono (orderG_t x.w y.w _) ?_
  rintro e W3 ⟨rfl, g3⟩
  go_wp2
  go_ret
  exact ⟨rfl, gr_tr g2 g3⟩
instance : Inhabited Fl := ⟨fl0⟩
abbrev encL (p : Fl) : List Value := p.v.toList
def ordL (x y : Fl) : Int := x.w.order y.w
theorem ordL_less (x y : Fl) : ltOf ordL x y = decide (x.w.order y.w < 0) := by unfold ltOf ordL; rfl
theorem swoL : Sort.SWO (ltOf ordL) where
  irrefl x := by rw [ordL_less, order_self]; rfl
  trans x y z h1 h2 := by
    rw [ordL_less, decide_eq_true_eq] at *
    exact order_lt_tr h1 h2
  ntrans x y z h1 h2 := by
    rw [ordL_less, decide_eq_false_iff_not] at *
    have a := Wy.order_neg x.w y.w
    have b := Wy.order_neg y.w z.w
    have c := Wy.order_neg x.w z.w
    have := Wy.order_tr (a := z.w) (b := y.w) (c := x.w) (by omega) (by omega)
    omega
theorem flat_getL (d : Array Fl) (i j : Nat) (hi : i < d.size) (hj : j < 22) : (Sort.flatK encL 22 d)[i * 22 + j]! = (d[i]!).v[j]! := by
  rw [Sort.get_flatK _ _ _ _ (by omega), show (i * 22 + j) / 22 = i by omega, show (i * 22 + j) % 22 = j by omega]
  simp [encL]
theorem heap_sortedL {w : World} {g n : Nat} {os : Array Obj} {cur : Array Value} {e : TypeId} (d : Array Fl) (hb : Blk w g e cur) :
    Blk (sortWorldK encL 22 w g 0 n d os) g e (Sort.putCells id 0 (Sort.flatK encL 22 d) cur) := by
  have hb' : w.heap[g]? = some (.cells cur e (0, 0)) := hb
  have hg : g < w.heap.size := hb.lt
  show (Sort.grow (Sort.putRow id (Sort.ahead w n) g 0 (Sort.flatK encL 22 d)) os).heap[g]? = _
  rw [Sort.heap_grow_old _ _ (by simpa using hg)]
  simp [Sort.putRow, Sort.mapBlock, Sort.ahead, Array.getElem?_modify, hb', Sort.onCells]
theorem grownBy_sortedL {w : World} {g n : Nat} {os : Array Obj} (d : Array Fl) : w.grownBy (sortWorldK encL 22 w g 0 n d os) (some g) := by
  show w.grownBy (Sort.grow (Sort.putRow id (Sort.ahead w n) g 0 (Sort.flatK encL 22 d)) os) (some g)
  refine ⟨rfl, rfl, rfl, by simp, fun k hk hne => ?_⟩
  rw [Sort.heap_grow_old _ _ (by simpa using hk)]
  have : g ≠ k := fun e => hne (by rw [e])
  simp [Sort.putRow, Sort.mapBlock, Sort.ahead, Array.getElem?_modify, this]
theorem cmpLF (blk off size : Nat) (w : World) : CmpLays Try.prog 53 #[] encL 22 ordL blk off size w := fun m os dk hk x y => by
  have h := all1_fw x y (sortWorldK encL 22 w blk off m dk os)
  exact h.mono fun e w' ⟨h1, h2⟩ => ⟨h1, gr_grow h2⟩
theorem sort_fls (W : World) (B g c : Nat) (l : List Fl) (h : OwnL W B (some ⟨g, 0, none⟩) c l) (hB : B ≤ W.heap.size) (hll : l.length ≤ 1048576) :
    Calls Try.prog 52 #[.slice (some ⟨g, 0, none⟩) l.length c, .func (.func 53) #[] #[]] W fun e w' => e = .returned (.tuple #[]) ∧ ∃ l' : List Fl, l'.Perm l ∧ (l'.Pairwise fun p q => ¬ q.w.order p.w < 0) ∧ OwnL w' B (some ⟨g, 0, none⟩) c l' ∧ Below B W w' := by
  obtain ⟨cur, hb, hs, hBg, hlc, hcm, hel⟩ := h.blk
  have hH : Sort.HoldsK encL 22 W g 0 l.toArray := fun t ht => by
    rw [Sort.size_flatK] at ht
    have hi : t / 22 < l.length := by simp at ht; omega
    have hq : l[t / 22]? = some l[t / 22] := List.getElem?_eq_getElem hi
    have h1 := hel (t / 22) _ (t % 22) hq (by omega)
    rw [show t / 22 * 22 + t % 22 = t by omega] at h1
    have h2 := flat_getL l.toArray (t / 22) (t % 22) (by simpa using hi) (by omega)
    rw [show t / 22 * 22 + t % 22 = t by omega] at h2
    rw [Nat.zero_add, h2]
    have e1 : l.toArray[t / 22]! = l[t / 22] := by rw [getElem!_pos _ _ (by simpa using hi)]; simp
    rw [e1]
    refine ⟨?_, hb.frozen t⟩
    refine hb.cell t _ ?_
    rw [h1]
    rw [getElem!_pos _ _ (by show t % 22 < 22; omega)]
    exact Array.getElem?_eq_getElem _
  have K := Try.slices_SortFunc_Fl encL (fun _ => rfl) flv_one ordL swoL 53 #[] g 0 c l.toArray W Try.call53 (cmpLF g 0 _ W) hH hb.lt (by simp; omega)
  rw [show l.toArray.size = l.length by simp] at K
  refine Calls.mono K ?_
  rintro e w' ⟨rfl, d', n, os, hp, hso, rfl⟩
  have hsz : d'.size = l.length := by simpa using hp.1
  have hperm : d'.toList.Perm l := by
    have h2 := hp.2.2
    have e1 : d'.extract 0 l.length = d' := by rw [← hsz]; simp
    have e2 : l.toArray.extract 0 l.length = l.toArray := by simp
    rw [e1, e2] at h2
    simpa using h2
  refine ⟨rfl, d'.toList, hperm, ?_, ?_, ?_⟩
  · rw [List.pairwise_iff_getElem]
    intro i j hi hj hij
    have hi' : i < d'.size := by simpa using hi
    have hj' : j < d'.size := by simpa using hj
    have := hso i j (Nat.zero_le _) hij (by omega)
    rw [ordL_less, getElem!_pos d' i hi', getElem!_pos d' j hj'] at this
    simpa using this
  · refine OwnL.mk' (heap_sortedL d' hb) (by simp [Sort.putCells, hs]) hBg (by simpa [hsz] using hlc) hcm (fun i q j hi hj => ?_)
    have hi' : i < d'.size := by simpa using (List.getElem?_eq_some_iff.1 hi).1
    have hq : d'[i]! = q := by
      rw [getElem!_pos d' i hi']
      have := (List.getElem?_eq_some_iff.1 hi).2
      simpa using this
    have hF := flat_getL d' i j hi' hj
    have hlt : i * 22 + j < cur.size := by omega
    have hlt' : i * 22 + j < 0 + (Sort.flatK encL 22 d').size := by rw [Sort.size_flatK]; omega
    rw [hq] at hF
    have : (Sort.putCells id 0 (Sort.flatK encL 22 d') cur)[i * 22 + j]? = some (Sort.flatK encL 22 d')[i * 22 + j]! := by
      unfold Sort.putCells
      rw [Array.getElem?_mapIdx, Array.getElem?_eq_getElem hlt]
      simp only [Option.map_some, id]
      rw [if_pos ⟨Nat.zero_le _, hlt'⟩, Nat.sub_zero]
    rw [this, hF, getElem!_pos _ _ (by show j < 22; exact hj)]
    exact (Array.getElem?_eq_getElem _).symm
  · exact (Below.refl _ _).grown (grownBy_sortedL d') hB (fun k hk => by cases hk; exact hBg)
end Go.Proofs.Ytmjjdbkipagkbaa
