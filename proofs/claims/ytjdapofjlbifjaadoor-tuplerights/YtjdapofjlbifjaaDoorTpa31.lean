/- Texts joined: TuD -/
import Derived.Test.YtjdapofjlbifjaaDoorTpa12
namespace Go.Proofs.YtjdapofjlbifjaaDoor
open Go.RowKit
set_option linter.unusedVariables false
set_option linter.unusedSimpArgs false
theorem Ad.same_no {a b : Ad} (h : ¬ (a.fam = b.fam ∧ a.hi = b.hi ∧ a.lo = b.lo)) : ¬ a.same b = true := fun e => h ((Ad.same_eq _ _).1 e)
theorem Ad.same_yes (a : Ad) : a.same a = true := (Ad.same_eq _ _).2 ⟨rfl, rfl, rfl⟩
set_option maxRecDepth 100000 in
set_option maxHeartbeats 2000000 in
theorem order_t (a b : Wy) (w : World) :
    Calls Tryd.prog 13 #[.agg a.v, .agg b.v] w fun e w' => e = .returned (.int .i64 (a.order b)) ∧ Below w.heap.size w w' := by
  obtain ⟨f, pr, ⟨sf, sh, sl⟩, ⟨df, dh, dl⟩, sp, dp⟩ := a
  obtain ⟨f', pr', ⟨sf', sh', sl'⟩, ⟨df', dh', dl'⟩, sp', dp'⟩ := b
  obtain ⟨T, hT⟩ : ∃ T, Wy.order ⟨f, pr, ⟨sf, sh, sl⟩, ⟨df, dh, dl⟩, sp, dp⟩ ⟨f', pr', ⟨sf', sh', sl'⟩, ⟨df', dh', dl'⟩, sp', dp'⟩ = T := ⟨_, rfl⟩
  rw [hT]
  have HT : Hid ((if f = f' then (if pr = pr' then (if Ad.same ⟨sf, sh, sl⟩ ⟨sf', sh', sl'⟩ = true then (if Ad.same ⟨df, dh, dl⟩ ⟨df', dh', dl'⟩ = true then (if sp = sp' then cmp3 dp dp' else cmp3 sp sp') else Ad.order ⟨df, dh, dl⟩ ⟨df', dh', dl'⟩) else Ad.order ⟨sf, sh, sl⟩ ⟨sf', sh', sl'⟩) else cmp3 pr pr') else cmp3 f f') = T) := hT
  clear hT
  by_cases h1 : f = f'
  case neg =>
    have T1 := HT.out
    rw [if_neg h1] at T1
    have n_ : (f == f') = false := by simpa using h1
    have T2 : Hid _ := T1
    clear HT T1
    have K := fun W => cmpI_any f f' W
    have b2 := bel_two w (.cells (Wy.v ⟨f, pr, ⟨sf, sh, sl⟩, ⟨df, dh, dl⟩, sp, dp⟩) 26) (.cells (Wy.v ⟨f', pr', ⟨sf', sh', sl'⟩, ⟨df', dh', dl'⟩, sp', dp'⟩) 26)
    go_enter Tryd.func13, Tryd.ntmps13
    go_wp2_with (go_at_call 28; refine (K _).mono ?_; rintro e w' ⟨rfl, rfl⟩)
    go_ret
    exact ⟨ret_int T2.out, b2⟩
  subst h1
  by_cases h2 : pr = pr'
  case neg =>
    have T1 := HT.out
    rw [if_pos rfl, if_neg h2] at T1
    have n_ : (pr == pr') = false := by simpa using h2
    have T2 : Hid _ := T1
    clear HT T1
    have K := fun W => cmpI_any pr pr' W
    have b2 := bel_two w (.cells (Wy.v ⟨f, pr, ⟨sf, sh, sl⟩, ⟨df, dh, dl⟩, sp, dp⟩) 26) (.cells (Wy.v ⟨f, pr', ⟨sf', sh', sl'⟩, ⟨df', dh', dl'⟩, sp', dp'⟩) 26)
    go_enter Tryd.func13, Tryd.ntmps13
    go_wp2_with (go_at_call 28; refine (K _).mono ?_; rintro e w' ⟨rfl, rfl⟩)
    go_ret
    exact ⟨ret_int T2.out, b2⟩
  subst h2
  by_cases h3f : sf = sf'
  case neg =>
    have T1 := HT.out
    rw [if_pos rfl, if_pos rfl, if_neg (Ad.same_no (fun e => h3f e.1))] at T1
    have n_ : (sf == sf') = false := by simpa using h3f
    have T2 : Hid _ := T1
    clear HT T1
    have K := fun W => order_any sf sh sl sf' sh' sl' W
    have b2 := bel_two w (.cells (Wy.v ⟨f, pr, ⟨sf, sh, sl⟩, ⟨df, dh, dl⟩, sp, dp⟩) 26) (.cells (Wy.v ⟨f, pr, ⟨sf', sh', sl'⟩, ⟨df', dh', dl'⟩, sp', dp'⟩) 26)
    go_enter Tryd.func13, Tryd.ntmps13
    go_wp2_with (go_at_call 29; refine (K _).mono ?_; rintro e w' ⟨rfl, bb⟩)
    go_ret
    exact ⟨ret_int T2.out, bel_tr b2 bb⟩
  subst h3f
  by_cases h3h : sh = sh'
  case neg =>
    have T1 := HT.out
    rw [if_pos rfl, if_pos rfl, if_neg (Ad.same_no (fun e => h3h e.2.1))] at T1
    have n_ : (sh == sh') = false := by simpa using h3h
    have T2 : Hid _ := T1
    clear HT T1
    have K := fun W => order_any sf sh sl sf sh' sl' W
    have b2 := bel_two w (.cells (Wy.v ⟨f, pr, ⟨sf, sh, sl⟩, ⟨df, dh, dl⟩, sp, dp⟩) 26) (.cells (Wy.v ⟨f, pr, ⟨sf, sh', sl'⟩, ⟨df', dh', dl'⟩, sp', dp'⟩) 26)
    go_enter Tryd.func13, Tryd.ntmps13
    go_wp2_with (go_at_call 29; refine (K _).mono ?_; rintro e w' ⟨rfl, bb⟩)
    go_ret
    exact ⟨ret_int T2.out, bel_tr b2 bb⟩
  subst h3h
  by_cases h3l : sl = sl'
  case neg =>
    have T1 := HT.out
    rw [if_pos rfl, if_pos rfl, if_neg (Ad.same_no (fun e => h3l e.2.2))] at T1
    have n_ : (sl == sl') = false := by simpa using h3l
    have T2 : Hid _ := T1
    clear HT T1
    have K := fun W => order_any sf sh sl sf sh sl' W
    have b2 := bel_two w (.cells (Wy.v ⟨f, pr, ⟨sf, sh, sl⟩, ⟨df, dh, dl⟩, sp, dp⟩) 26) (.cells (Wy.v ⟨f, pr, ⟨sf, sh, sl'⟩, ⟨df', dh', dl'⟩, sp', dp'⟩) 26)
    go_enter Tryd.func13, Tryd.ntmps13
    go_wp2_with (go_at_call 29; refine (K _).mono ?_; rintro e w' ⟨rfl, bb⟩)
    go_ret
    exact ⟨ret_int T2.out, bel_tr b2 bb⟩
  subst h3l
  by_cases h4f : df = df'
  case neg =>
    have T1 := HT.out
    rw [if_pos rfl, if_pos rfl, if_pos (Ad.same_yes _), if_neg (Ad.same_no (fun e => h4f e.1))] at T1
    have n_ : (df == df') = false := by simpa using h4f
    have T2 : Hid _ := T1
    clear HT T1
    have K := fun W => order_any df dh dl df' dh' dl' W
    have b2 := bel_two w (.cells (Wy.v ⟨f, pr, ⟨sf, sh, sl⟩, ⟨df, dh, dl⟩, sp, dp⟩) 26) (.cells (Wy.v ⟨f, pr, ⟨sf, sh, sl⟩, ⟨df', dh', dl'⟩, sp', dp'⟩) 26)
    go_enter Tryd.func13, Tryd.ntmps13
    go_wp2_with (go_at_call 29; refine (K _).mono ?_; rintro e w' ⟨rfl, bb⟩)
    go_ret
    exact ⟨ret_int T2.out, bel_tr b2 bb⟩
  subst h4f
  by_cases h4h : dh = dh'
  case neg =>
    have T1 := HT.out
    rw [if_pos rfl, if_pos rfl, if_pos (Ad.same_yes _), if_neg (Ad.same_no (fun e => h4h e.2.1))] at T1
    have n_ : (dh == dh') = false := by simpa using h4h
    have T2 : Hid _ := T1
    clear HT T1
    have K := fun W => order_any df dh dl df dh' dl' W
    have b2 := bel_two w (.cells (Wy.v ⟨f, pr, ⟨sf, sh, sl⟩, ⟨df, dh, dl⟩, sp, dp⟩) 26) (.cells (Wy.v ⟨f, pr, ⟨sf, sh, sl⟩, ⟨df, dh', dl'⟩, sp', dp'⟩) 26)
    go_enter Tryd.func13, Tryd.ntmps13
    go_wp2_with (go_at_call 29; refine (K _).mono ?_; rintro e w' ⟨rfl, bb⟩)
    go_ret
    exact ⟨ret_int T2.out, bel_tr b2 bb⟩
  subst h4h
  by_cases h4l : dl = dl'
  case neg =>
    have T1 := HT.out
    rw [if_pos rfl, if_pos rfl, if_pos (Ad.same_yes _), if_neg (Ad.same_no (fun e => h4l e.2.2))] at T1
    have n_ : (dl == dl') = false := by simpa using h4l
    have T2 : Hid _ := T1
    clear HT T1
    have K := fun W => order_any df dh dl df dh dl' W
    have b2 := bel_two w (.cells (Wy.v ⟨f, pr, ⟨sf, sh, sl⟩, ⟨df, dh, dl⟩, sp, dp⟩) 26) (.cells (Wy.v ⟨f, pr, ⟨sf, sh, sl⟩, ⟨df, dh, dl'⟩, sp', dp'⟩) 26)
    go_enter Tryd.func13, Tryd.ntmps13
    go_wp2_with (go_at_call 29; refine (K _).mono ?_; rintro e w' ⟨rfl, bb⟩)
    go_ret
    exact ⟨ret_int T2.out, bel_tr b2 bb⟩
  subst h4l
  by_cases h5 : sp = sp'
  case neg =>
    have T1 := HT.out
    rw [if_pos rfl, if_pos rfl, if_pos (Ad.same_yes _), if_pos (Ad.same_yes _), if_neg h5] at T1
    have n_ : (sp == sp') = false := by simpa using h5
    have T2 : Hid _ := T1
    clear HT T1
    have K := fun W => cmpI_any sp sp' W
    have b2 := bel_two w (.cells (Wy.v ⟨f, pr, ⟨sf, sh, sl⟩, ⟨df, dh, dl⟩, sp, dp⟩) 26) (.cells (Wy.v ⟨f, pr, ⟨sf, sh, sl⟩, ⟨df, dh, dl⟩, sp', dp'⟩) 26)
    go_enter Tryd.func13, Tryd.ntmps13
    go_wp2_with (go_at_call 28; refine (K _).mono ?_; rintro e w' ⟨rfl, rfl⟩)
    go_ret
    exact ⟨ret_int T2.out, b2⟩
  subst h5
  have T1 := HT.out
  rw [if_pos rfl, if_pos rfl, if_pos (Ad.same_yes _), if_pos (Ad.same_yes _), if_pos rfl] at T1
  have T2 : Hid _ := T1
  clear HT T1
  have K := fun W => cmpI_any dp dp' W
  have b2 := bel_two w (.cells (Wy.v ⟨f, pr, ⟨sf, sh, sl⟩, ⟨df, dh, dl⟩, sp, dp⟩) 26) (.cells (Wy.v ⟨f, pr, ⟨sf, sh, sl⟩, ⟨df, dh, dl⟩, sp, dp'⟩) 26)
  go_enter Tryd.func13, Tryd.ntmps13
  go_wp2_with (go_at_call 28; refine (K _).mono ?_; rintro e w' ⟨rfl, rfl⟩)
  go_ret
  exact ⟨ret_int T2.out, b2⟩
end Go.Proofs.YtjdapofjlbifjaaDoor
