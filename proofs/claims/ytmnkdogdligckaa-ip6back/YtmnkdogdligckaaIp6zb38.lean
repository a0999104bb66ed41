/- Texts joined: Ip6Sb -/
import Derived.Test.YtmnkdogdligckaaIp6zb36
import Derived.BigRegion
namespace Go.Proofs.Ytmnkdogdligckaa
open Go.RowKit
set_option linter.unusedVariables false
set_option linter.unusedSimpArgs false
set_option maxRecDepth 100000 in
set_option maxHeartbeats 4000000 in
theorem one_route8a (g : Nat) (s : St) (at_ : Nat) (L : List Int) (a : Option Addr) (c : Nat) (xa : Option Addr) (xc : Nat) (E : Bool) (W0 w w1 : World) (R : RT W0 w g s at_ L a c xa xc E w1) (hg : W0.heap.size ≤ g) (hb : Below W0.heap.size W0 w) (hcut : s.cut = false) (h8 : s.ex.length ≠ 8) (hl : ¬ s.l.length < hsz s.next s.l) (hx : s.next = 43) (h3 : s.l.getD 3 0 ≠ 0) :
    Calls Try.prog 44 #[.pointer (some ⟨g, 0, none⟩)] w1 fun e w' => e = .returned (.tuple #[.int .i64 (werr s), .bool (oneOver s)]) ∧ OneTo W0 w g s at_ L a c E w' := by
  have HEV : Hid (werr s = 8) := by
    show werr s = 8
    unfold werr
    rw [if_neg h8, if_neg hl]
    unfold lerr
    rw [if_neg (by rw [hx]; decide), if_pos hx, if_pos (.inl h3)]
  have HCUT : Hid (oneOver s = true) := by
    show oneOver s = true
    unfold oneOver
    rw [HEV.out, if_neg (by decide)]
  have hlz := R.lis
  have hll : s.l.length = L.length - at_ := by rw [R.lis, List.length_drop]
  have c3 := R.tw.c3
  have h8n : s.ex.length ≤ 7 := by have := R.few; omega
  have h8' : ¬ (8 : Int) ≤ (s.ex.length : Int) := by omega
  have hbw : Below W0.heap.size W0 w1 := hb.trans (R.below.mono hg)
  have HZC : Hid _ := rsize6_any g s at_ a c L _ _ E w1 R.tw (R.row.below hbw) R.lis R.atl
  rw [if_neg hl] at HZC
  have HRA : Hid (∀ n, RT W0 w g s at_ L a c xa xc E (w1.drewN n)) := fun n => R.drewN n
  obtain ⟨hz, hhz⟩ : ∃ hz, hsz s.next s.l = hz := ⟨_, rfl⟩
  have HZ : Hid (hsz s.next s.l = hz) := hhz
  rw [hhz] at HZC hl
  have hp : 8 ≤ hz := by rw [← hhz]; exact hsz_pos _ _
  have sm := R.row.small
  have hroom := R.room
  have hcap := R.cap
  have hatl := R.atl
  have hd0 := (R.row.drop c at_ hroom).take hz
  rw [← R.lis] at hd0
  have hL : (s.l.take hz).length = hz := by rw [List.length_take]; omega
  have HL : Hid ((s.l.take hz).length = hz) := hL
  obtain ⟨bk, off, rfl, hclx⟩ := R.row.cells (by omega)
  clear hclx
  have hcat : ¬ c = at_ := by omega
  rw [if_neg hcat] at hd0
  have hd1 : Row W0 (some ⟨bk, off + at_, none⟩) (s.l.take hz) := by simpa [Go.WideShapes.add_plain] using hd0
  have HD : Hid (Row W0 (some ⟨bk, off + at_, none⟩) (s.l.take hz)) := hd1
  clear hd1
  clear hd0 hhz hlz hL
  have i1 : (at_ : Int) ≤ (at_ : Int) + (hz : Int) := by omega
  have i2 : (at_ : Int) + (hz : Int) ≤ (c : Int) := by omega
  have i3 : at_ + hz ≤ c := by omega
  have hn0 : ¬ (hz : Int) < 0 := Int.not_lt.2 (Int.natCast_nonneg hz)
  have i4 : (at_ : Int) + (hz : Int) ≤ 140737488355328 := by omega
  clear R
  go_enter Try.func44, Try.ntmps44
  go_wp2_with fail
  refine Calls.mono HZC.out ?_
  rintro e w' ⟨rfl, n, rfl⟩
  have HR : Hid (RT W0 w g s at_ L (some ⟨bk, off, none⟩) c xa xc E (w1.drewN n)) := HRA.out n
  obtain ⟨w2, hw2⟩ : ∃ w2, w1.drewN n = w2 := ⟨_, rfl⟩
  rw [hw2] at HR ⊢
  clear HRA HZC c3 hw2 hbw
  have c0 := HR.out.tw.c0
  have c1 := HR.out.tw.c1
  have c2 := HR.out.tw.c2
  go_wp2
  go_quiet (fail)
  replace HR : Hid (RT W0 w g s at_ L (some ⟨bk, off, none⟩) c xa xc E (w2.drewN nq)) := HR.out.drewN nq
  obtain ⟨w3, hw3⟩ : ∃ w3, w2.drewN nq = w3 := ⟨_, rfl⟩
  rw [hw3] at HR ⊢
  clear c0 c1 c2 hw3
  have c0 := HR.out.tw.c0
  have hr3 : Row w3 (some ⟨bk, off + at_, none⟩) (s.l.take hz) := HD.out.below (hb.trans (HR.out.below.mono hg))
  rw [hx] at c0
  obtain ⟨bk', off', hq, hcl⟩ := hr3.cells (by have := HL.out; omega)
  cases hq
  have d3 := hcl 3 (by have := HL.out; omega)
  rw [gtake _ (by omega)] at d3
  have j3 : (3 : Int) < (hz : Int) := by omega
  obtain ⟨y3, e3⟩ : ∃ y, s.l.getD 3 0 = y := ⟨_, rfl⟩
  rw [e3] at d3 h3
  have h3' : (y3 != 0) = true := by simpa using h3
  clear e3
  clear hcl
  have e3 : took s = s := by unfold took; rw [if_neg (by rw [hx]; decide)]
  obtain ⟨t, ht⟩ : ∃ t, took s = t := ⟨_, rfl⟩
  have tt : Hid (took s = t) := ht
  have PL : Hid (E = false → t.met = true) := by show _; rw [← ht, e3]; exact HR.out.plain
  have ZR : Hid (t.cut = false → t.off = 0 ∧ t.more = false) := by show _; rw [← ht, e3]; exact HR.out.zero
  have TC : Hid (t.cut = false) := by show _; rw [← ht, e3]; exact hcut
  have TX : TW w3 g t at_ (.slice (some ⟨bk, off, none⟩) L.length c) (.slice xa s.ex.length xc) (!s.met && decide (s.ex.length = 0)) E := by rw [← ht, e3]; exact HR.out.tw
  have OX := HR.out.own
  have BX := HR.out.below
  clear ht e3
  have HX : Hid _ := hx
  clear hx
  have tn : t.next = s.next := by rw [← tt.out]; exact took_next s
  have T5 : TW (w3.setCell ⟨g, 4, none⟩ (.bool false)) g t at_ (.slice (some ⟨bk, off, none⟩) L.length c) (.slice xa s.ex.length xc) false E := TX.put 4 _ (.inl (by decide)) (by simp) (by simp) (by decide) (by simp) (by simp) (by simp) (by decide) (by simp) (by simp) (by simp) (by simp)
  have O5 := OX.far (grownBy_setCell w3 g 4 (.bool false)) (Nat.lt_succ_self g)
  have B5 := BX.setCell (p := ⟨g, 4, none⟩) (Nat.le_refl _) (.bool false)
  have c4 := TX.c4
  have f4 := TX.fz 4
  obtain ⟨W5, hW5⟩ : ∃ W5, w3.setCell ⟨g, 4, none⟩ (.bool false) = W5 := ⟨_, rfl⟩
  rw [hW5] at T5 O5 B5
  have gl5 : g < W5.heap.size := T5.lt
  have q0 := T5.c0
  have q3 := T5.c3
  have f3 := T5.fz 3
  rw [tn] at q0
  have OWN : Hid ((W5.alloc (.cells #[.int .i64 s.next] 3)).ownsRow (g + 1) 3 1 (.slice xa s.ex.length xc) s.ex.length (s.ex.map (Value.int .i64))) := World.ownsRow.alloc O5 _
  have NEW : Hid (∀ j u, ([.int .i64 s.next] : List Value)[j]? = some u → (W5.alloc (.cells #[.int .i64 s.next] 3)).cell? ((⟨W5.heap.size, 0, none⟩ : Addr).add j) = some u) :=
    World.news_of_block (cs := #[.int .i64 s.next]) (t := 3) (fr := (0, 0)) (World.heap_new W5 _)
  have gw : W5.grownBy (W5.alloc (.cells #[.int .i64 s.next] 3)) none := World.grownBy_alloc _ _ _
  obtain ⟨i0, hi, hz0, hz1, hz2⟩ := info_parts info_int
  have far : Hid (∀ w6, (W5.alloc (.cells #[.int .i64 s.next] 3)).drew.grownBy w6 (Value.slice xa s.ex.length xc).ownBlock → TW w6 g t at_ (.slice (some ⟨bk, off, none⟩) L.length c) (.slice xa s.ex.length xc) false E) := by
    intro w6 hgr
    refine ((T5.grown gw (by simp)).grown (grownBy_drew _ none) (by simp)).grown hgr ?_
    intro e
    have := (World.ownsRow.lt O5 g e.symm).1
    omega
  clear TX OX BX T5
  go_wp2_with fail
  clear c4 f4 hW5
  go_region_law (refine step_append_lies _ rfl (.tmp 134) (.tmp 139) 23 rfl (g + 1) 3 i0 (.int .i64 0) 1 8 Try.underlying23 hi hz0 hz1 hz2 rfl (by decide) (.slice xa s.ex.length xc) s.ex.length (s.ex.map (Value.int .i64)) (by simp [Act.eval, Act.put]) OWN.out ⟨W5.heap.size, 0, none⟩ 1 1 [.int .i64 s.next] (by simp [Act.eval, Act.put]) rfl NEW.out (by simp [Value.oneCell']) (by decide) (by unfold maxLen; omega) (by omega) (by show g + 1 ≤ (W5.alloc _).heap.size; rw [World.size_alloc]; omega) (W5.heap.size + 1) (by show (W5.alloc _).heap.size = _; rw [World.size_alloc]) ?_; intro gx cx w6 hown6 hgrow6 hat hlt; have x3 := (far.out w6 hgrow6).c3; have y3 := (far.out w6 hgrow6).fz 3)
  all_goals (
    have T7 : TW (w6.setCell ⟨g, 3, none⟩ (.slice (some ⟨gx, 0, none⟩) (s.ex.length + 1) cx)) g t at_ (.slice (some ⟨bk, off, none⟩) L.length c) (.slice (some ⟨gx, 0, none⟩) (s.ex.length + 1) cx) false E := (far.out w6 hgrow6).put 3 _ (.inl (by decide)) (by simp) (by simp) (by decide) (by simp) (by simp) (by simp) (by decide) (by simp) (by simp) (by simp) (by simp)
    have ne : (Value.slice (some ⟨gx, 0, none⟩) (s.ex.length + 1) cx).ownBlock = none ∨ (Value.slice (some ⟨gx, 0, none⟩) (s.ex.length + 1) cx).ownBlock ≠ some g := .inr (by
      have := (World.ownsRow.lt hown6 gx rfl).1
      show some gx ≠ some g
      simp
      omega)
    have G6 : W5.grownBy w6 (Value.slice xa s.ex.length xc).ownBlock := (World.grownBy_alloc W5 _ _).trans ((grownBy_drew _ _).trans hgrow6)
    have B6 : Below g w w6 := B5.grown G6 (by omega) (fun k hk => by have := (World.ownsRow.lt O5 k hk).1; omega)
    have O7 := World.ownsRow.kept hown6 (grownBy_setCell w6 g 3 (.slice (some ⟨gx, 0, none⟩) (s.ex.length + 1) cx)) ne
    have B7 := B6.setCell (p := ⟨g, 3, none⟩) (Nat.le_refl _) (.slice (some ⟨gx, 0, none⟩) (s.ex.length + 1) cx)
    obtain ⟨W7, hW7⟩ : ∃ W7, w6.setCell ⟨g, 3, none⟩ (.slice (some ⟨gx, 0, none⟩) (s.ex.length + 1) cx) = W7 := ⟨_, rfl⟩
    rw [hW7] at T7 O7 B7
    clear G6 B6 hgrow6 hown6 hat hlt x3 y3 OWN NEW far gw O5 B5 q0 q3 f3
    have r7 := HD.out.below (hb.trans (B7.mono hg))
    obtain ⟨bk7, off7, hq7, hcl7⟩ := r7.cells (by have := HL.out; omega)
    cases hq7
    have d0 := hcl7 0 (by have := HL.out; omega)
    have db := r7.bytes.get 0
    rw [gtake _ (by omega)] at d0 db
    rw [Nat.add_zero] at d0
    have j0 : (0 : Int) < (hz : Int) := by omega
    obtain ⟨x0, hx0⟩ : ∃ x0, s.l.getD 0 0 = x0 := ⟨_, rfl⟩
    have HX0 : Hid (s.l.getD 0 0 = x0) := hx0
    rw [hx0] at d0 db
    have T8 : TW (W7.setCell ⟨g, 0, none⟩ (.int .i64 x0)) g { t with next := x0 } at_ (.slice (some ⟨bk, off, none⟩) L.length c) (.slice (some ⟨gx, 0, none⟩) (s.ex.length + 1) cx) false E := T7.put 0 _ (.inl (by decide)) (by simp) (by simp) (by decide) (by simp) (by simp) (by simp) (by decide) (by simp) (by simp) (by simp) (by simp)
    have O8 := World.ownsRow.kept O7 (grownBy_setCell W7 g 0 (.int .i64 x0)) ne
    have B8 := B7.setCell (p := ⟨g, 0, none⟩) (Nat.le_refl _) (.int .i64 x0)
    have q0 := T7.c0
    have f0 := T7.fz 0
    obtain ⟨W8, hW8⟩ : ∃ W8, W7.setCell ⟨g, 0, none⟩ (.int .i64 x0) = W8 := ⟨_, rfl⟩
    rw [hW8] at T8 O8 B8
    have T9 : TW (W8.setCell ⟨g, 1, none⟩ (.int .i64 ((at_ : Int) + (hz : Int)))) g { t with next := x0 } (at_ + hz) (.slice (some ⟨bk, off, none⟩) L.length c) (.slice (some ⟨gx, 0, none⟩) (s.ex.length + 1) cx) false E := T8.put 1 _ (.inl (by decide)) (by simp) (by simp) (by decide) (by simp) (by simp) (by simp) (by decide) (by simp) (by simp) (by simp) (by simp)
    have O9 := World.ownsRow.kept O8 (grownBy_setCell W8 g 1 (.int .i64 ((at_ : Int) + (hz : Int)))) ne
    have B9 := B8.setCell (p := ⟨g, 1, none⟩) (Nat.le_refl _) (.int .i64 ((at_ : Int) + (hz : Int)))
    have q1 := T8.c1
    have f1 := T8.fz 1
    obtain ⟨W9, hW9⟩ : ∃ W9, W8.setCell ⟨g, 1, none⟩ (.int .i64 ((at_ : Int) + (hz : Int))) = W9 := ⟨_, rfl⟩
    rw [hW9] at T9 O9 B9
    have f16 := T9.c16
    rw [show ({ t with next := x0 } : St).cut = t.cut from rfl, TC.out] at f16
    have FIN : Hid (∀ m, OneTo W0 w g s at_ L (some ⟨bk, off, none⟩) c E (W9.drewN m)) := by
      intro m
      refine ⟨below_drewN B9 m, fun h0 => ⟨some ⟨gx, 0, none⟩, cx, ?_⟩⟩
      rw [HZ.out]
      have eX : s.ex.length + 1 = (after s).ex.length := by rw [after_ex]; simp
      have eh : (!(after s).met && decide ((after s).ex.length = 0)) = false := by rw [← eX]; simp
      have T10 := T9.grown (grownBy_drewN W9 m none) (by simp)
      have ea : after s = stepd t hz := by unfold after; rw [tt.out, HZ.out]
      refine ⟨?_, HR.out.row, HR.out.room, HR.out.cap, ?_, by omega, ?_, below_drewN B9 m, by rw [← eX]; omega, ?_, ?_⟩
      · rw [eh, ← eX]
        rw [ea]
        obtain ⟨k0, k1, k2, k3, k4, k5, k6, k16, k17, k18, k19, kz, kf⟩ := T10
        refine ⟨?_, k1, k2, k3, k4, k5, k6, k16, k17, k18, k19, kz, kf⟩
        have : (stepd t hz).next = x0 := by rw [← ea, after_next]; exact HX0.out
        rw [this]
        exact k0
      · rw [after_l, HZ.out, HR.out.lis, List.drop_drop]
      · show World.ownsRow _ _ _ _ _ _ _
        rw [← eX, after_ex, List.map_append]
        exact O9
      · intro hE
        rw [ea]
        exact PL.out hE
      · rw [ea]
        exact ZR.out
    clear T7 T8 T9 O7 O8 O9 B7 B8 B9 hx0 hcl7 r7 tn gl5
    go_wp2_with fail
    go_quiet (fail)
    go_wp2
    exact bodyPost_ret (v := .tuple #[.int .i64 8, .bool true]) (by simp [results, Try.results44, go_sem]) rfl ⟨by rw [HEV.out, HCUT.out], FIN.out nq⟩)
set_option maxRecDepth 100000 in
set_option maxHeartbeats 4000000 in
theorem one_route8b (g : Nat) (s : St) (at_ : Nat) (L : List Int) (a : Option Addr) (c : Nat) (xa : Option Addr) (xc : Nat) (E : Bool) (W0 w w1 : World) (R : RT W0 w g s at_ L a c xa xc E w1) (hg : W0.heap.size ≤ g) (hb : Below W0.heap.size W0 w) (hcut : s.cut = false) (h8 : s.ex.length ≠ 8) (hl : ¬ s.l.length < hsz s.next s.l) (hx : s.next = 43) (h3 : s.l.getD 3 0 = 0) (h2 : s.l.getD 2 0 = 0) :
    Calls Try.prog 44 #[.pointer (some ⟨g, 0, none⟩)] w1 fun e w' => e = .returned (.tuple #[.int .i64 (werr s), .bool (oneOver s)]) ∧ OneTo W0 w g s at_ L a c E w' := by
  have HEV : Hid (werr s = 8) := by
    show werr s = 8
    unfold werr
    rw [if_neg h8, if_neg hl]
    unfold lerr
    rw [if_neg (by rw [hx]; decide), if_pos hx, if_pos (.inr h2)]
  have HCUT : Hid (oneOver s = true) := by
    show oneOver s = true
    unfold oneOver
    rw [HEV.out, if_neg (by decide)]
  have hlz := R.lis
  have hll : s.l.length = L.length - at_ := by rw [R.lis, List.length_drop]
  have c3 := R.tw.c3
  have h8n : s.ex.length ≤ 7 := by have := R.few; omega
  have h8' : ¬ (8 : Int) ≤ (s.ex.length : Int) := by omega
  have hbw : Below W0.heap.size W0 w1 := hb.trans (R.below.mono hg)
  have HZC : Hid _ := rsize6_any g s at_ a c L _ _ E w1 R.tw (R.row.below hbw) R.lis R.atl
  rw [if_neg hl] at HZC
  have HRA : Hid (∀ n, RT W0 w g s at_ L a c xa xc E (w1.drewN n)) := fun n => R.drewN n
  obtain ⟨hz, hhz⟩ : ∃ hz, hsz s.next s.l = hz := ⟨_, rfl⟩
  have HZ : Hid (hsz s.next s.l = hz) := hhz
  rw [hhz] at HZC hl
  have hp : 8 ≤ hz := by rw [← hhz]; exact hsz_pos _ _
  have sm := R.row.small
  have hroom := R.room
  have hcap := R.cap
  have hatl := R.atl
  have hd0 := (R.row.drop c at_ hroom).take hz
  rw [← R.lis] at hd0
  have hL : (s.l.take hz).length = hz := by rw [List.length_take]; omega
  have HL : Hid ((s.l.take hz).length = hz) := hL
  obtain ⟨bk, off, rfl, hclx⟩ := R.row.cells (by omega)
  clear hclx
  have hcat : ¬ c = at_ := by omega
  rw [if_neg hcat] at hd0
  have hd1 : Row W0 (some ⟨bk, off + at_, none⟩) (s.l.take hz) := by simpa [Go.WideShapes.add_plain] using hd0
  have HD : Hid (Row W0 (some ⟨bk, off + at_, none⟩) (s.l.take hz)) := hd1
  clear hd1
  clear hd0 hhz hlz hL
  have i1 : (at_ : Int) ≤ (at_ : Int) + (hz : Int) := by omega
  have i2 : (at_ : Int) + (hz : Int) ≤ (c : Int) := by omega
  have i3 : at_ + hz ≤ c := by omega
  have hn0 : ¬ (hz : Int) < 0 := Int.not_lt.2 (Int.natCast_nonneg hz)
  have i4 : (at_ : Int) + (hz : Int) ≤ 140737488355328 := by omega
  clear R
  go_enter Try.func44, Try.ntmps44
  go_wp2_with fail
  refine Calls.mono HZC.out ?_
  rintro e w' ⟨rfl, n, rfl⟩
  have HR : Hid (RT W0 w g s at_ L (some ⟨bk, off, none⟩) c xa xc E (w1.drewN n)) := HRA.out n
  obtain ⟨w2, hw2⟩ : ∃ w2, w1.drewN n = w2 := ⟨_, rfl⟩
  rw [hw2] at HR ⊢
  clear HRA HZC c3 hw2 hbw
  have c0 := HR.out.tw.c0
  have c1 := HR.out.tw.c1
  have c2 := HR.out.tw.c2
  go_wp2
  go_quiet (fail)
  replace HR : Hid (RT W0 w g s at_ L (some ⟨bk, off, none⟩) c xa xc E (w2.drewN nq)) := HR.out.drewN nq
  obtain ⟨w3, hw3⟩ : ∃ w3, w2.drewN nq = w3 := ⟨_, rfl⟩
  rw [hw3] at HR ⊢
  clear c0 c1 c2 hw3
  have c0 := HR.out.tw.c0
  have hr3 : Row w3 (some ⟨bk, off + at_, none⟩) (s.l.take hz) := HD.out.below (hb.trans (HR.out.below.mono hg))
  rw [hx] at c0
  obtain ⟨bk', off', hq, hcl⟩ := hr3.cells (by have := HL.out; omega)
  cases hq
  have d2 := hcl 2 (by have := HL.out; omega)
  have d3 := hcl 3 (by have := HL.out; omega)
  rw [gtake _ (by omega)] at d2 d3
  have j2 : (2 : Int) < (hz : Int) := by omega
  have j3 : (3 : Int) < (hz : Int) := by omega
  rw [h3] at d3
  rw [h2] at d2
  clear hcl
  have e3 : took s = s := by unfold took; rw [if_neg (by rw [hx]; decide)]
  obtain ⟨t, ht⟩ : ∃ t, took s = t := ⟨_, rfl⟩
  have tt : Hid (took s = t) := ht
  have PL : Hid (E = false → t.met = true) := by show _; rw [← ht, e3]; exact HR.out.plain
  have ZR : Hid (t.cut = false → t.off = 0 ∧ t.more = false) := by show _; rw [← ht, e3]; exact HR.out.zero
  have TC : Hid (t.cut = false) := by show _; rw [← ht, e3]; exact hcut
  have TX : TW w3 g t at_ (.slice (some ⟨bk, off, none⟩) L.length c) (.slice xa s.ex.length xc) (!s.met && decide (s.ex.length = 0)) E := by rw [← ht, e3]; exact HR.out.tw
  have OX := HR.out.own
  have BX := HR.out.below
  clear ht e3
  have HX : Hid _ := hx
  clear hx
  have tn : t.next = s.next := by rw [← tt.out]; exact took_next s
  have T5 : TW (w3.setCell ⟨g, 4, none⟩ (.bool false)) g t at_ (.slice (some ⟨bk, off, none⟩) L.length c) (.slice xa s.ex.length xc) false E := TX.put 4 _ (.inl (by decide)) (by simp) (by simp) (by decide) (by simp) (by simp) (by simp) (by decide) (by simp) (by simp) (by simp) (by simp)
  have O5 := OX.far (grownBy_setCell w3 g 4 (.bool false)) (Nat.lt_succ_self g)
  have B5 := BX.setCell (p := ⟨g, 4, none⟩) (Nat.le_refl _) (.bool false)
  have c4 := TX.c4
  have f4 := TX.fz 4
  obtain ⟨W5, hW5⟩ : ∃ W5, w3.setCell ⟨g, 4, none⟩ (.bool false) = W5 := ⟨_, rfl⟩
  rw [hW5] at T5 O5 B5
  have gl5 : g < W5.heap.size := T5.lt
  have q0 := T5.c0
  have q3 := T5.c3
  have f3 := T5.fz 3
  rw [tn] at q0
  have OWN : Hid ((W5.alloc (.cells #[.int .i64 s.next] 3)).ownsRow (g + 1) 3 1 (.slice xa s.ex.length xc) s.ex.length (s.ex.map (Value.int .i64))) := World.ownsRow.alloc O5 _
  have NEW : Hid (∀ j u, ([.int .i64 s.next] : List Value)[j]? = some u → (W5.alloc (.cells #[.int .i64 s.next] 3)).cell? ((⟨W5.heap.size, 0, none⟩ : Addr).add j) = some u) :=
    World.news_of_block (cs := #[.int .i64 s.next]) (t := 3) (fr := (0, 0)) (World.heap_new W5 _)
  have gw : W5.grownBy (W5.alloc (.cells #[.int .i64 s.next] 3)) none := World.grownBy_alloc _ _ _
  obtain ⟨i0, hi, hz0, hz1, hz2⟩ := info_parts info_int
  have far : Hid (∀ w6, (W5.alloc (.cells #[.int .i64 s.next] 3)).drew.grownBy w6 (Value.slice xa s.ex.length xc).ownBlock → TW w6 g t at_ (.slice (some ⟨bk, off, none⟩) L.length c) (.slice xa s.ex.length xc) false E) := by
    intro w6 hgr
    refine ((T5.grown gw (by simp)).grown (grownBy_drew _ none) (by simp)).grown hgr ?_
    intro e
    have := (World.ownsRow.lt O5 g e.symm).1
    omega
  clear TX OX BX T5
  go_wp2_with fail
  clear c4 f4 hW5
  go_region_law (refine step_append_lies _ rfl (.tmp 134) (.tmp 139) 23 rfl (g + 1) 3 i0 (.int .i64 0) 1 8 Try.underlying23 hi hz0 hz1 hz2 rfl (by decide) (.slice xa s.ex.length xc) s.ex.length (s.ex.map (Value.int .i64)) (by simp [Act.eval, Act.put]) OWN.out ⟨W5.heap.size, 0, none⟩ 1 1 [.int .i64 s.next] (by simp [Act.eval, Act.put]) rfl NEW.out (by simp [Value.oneCell']) (by decide) (by unfold maxLen; omega) (by omega) (by show g + 1 ≤ (W5.alloc _).heap.size; rw [World.size_alloc]; omega) (W5.heap.size + 1) (by show (W5.alloc _).heap.size = _; rw [World.size_alloc]) ?_; intro gx cx w6 hown6 hgrow6 hat hlt; have x3 := (far.out w6 hgrow6).c3; have y3 := (far.out w6 hgrow6).fz 3)
  all_goals (
    have T7 : TW (w6.setCell ⟨g, 3, none⟩ (.slice (some ⟨gx, 0, none⟩) (s.ex.length + 1) cx)) g t at_ (.slice (some ⟨bk, off, none⟩) L.length c) (.slice (some ⟨gx, 0, none⟩) (s.ex.length + 1) cx) false E := (far.out w6 hgrow6).put 3 _ (.inl (by decide)) (by simp) (by simp) (by decide) (by simp) (by simp) (by simp) (by decide) (by simp) (by simp) (by simp) (by simp)
    have ne : (Value.slice (some ⟨gx, 0, none⟩) (s.ex.length + 1) cx).ownBlock = none ∨ (Value.slice (some ⟨gx, 0, none⟩) (s.ex.length + 1) cx).ownBlock ≠ some g := .inr (by
      have := (World.ownsRow.lt hown6 gx rfl).1
      show some gx ≠ some g
      simp
      omega)
    have G6 : W5.grownBy w6 (Value.slice xa s.ex.length xc).ownBlock := (World.grownBy_alloc W5 _ _).trans ((grownBy_drew _ _).trans hgrow6)
    have B6 : Below g w w6 := B5.grown G6 (by omega) (fun k hk => by have := (World.ownsRow.lt O5 k hk).1; omega)
    have O7 := World.ownsRow.kept hown6 (grownBy_setCell w6 g 3 (.slice (some ⟨gx, 0, none⟩) (s.ex.length + 1) cx)) ne
    have B7 := B6.setCell (p := ⟨g, 3, none⟩) (Nat.le_refl _) (.slice (some ⟨gx, 0, none⟩) (s.ex.length + 1) cx)
    obtain ⟨W7, hW7⟩ : ∃ W7, w6.setCell ⟨g, 3, none⟩ (.slice (some ⟨gx, 0, none⟩) (s.ex.length + 1) cx) = W7 := ⟨_, rfl⟩
    rw [hW7] at T7 O7 B7
    clear G6 B6 hgrow6 hown6 hat hlt x3 y3 OWN NEW far gw O5 B5 q0 q3 f3
    have r7 := HD.out.below (hb.trans (B7.mono hg))
    obtain ⟨bk7, off7, hq7, hcl7⟩ := r7.cells (by have := HL.out; omega)
    cases hq7
    have d0 := hcl7 0 (by have := HL.out; omega)
    have db := r7.bytes.get 0
    rw [gtake _ (by omega)] at d0 db
    rw [Nat.add_zero] at d0
    have j0 : (0 : Int) < (hz : Int) := by omega
    obtain ⟨x0, hx0⟩ : ∃ x0, s.l.getD 0 0 = x0 := ⟨_, rfl⟩
    have HX0 : Hid (s.l.getD 0 0 = x0) := hx0
    rw [hx0] at d0 db
    have T8 : TW (W7.setCell ⟨g, 0, none⟩ (.int .i64 x0)) g { t with next := x0 } at_ (.slice (some ⟨bk, off, none⟩) L.length c) (.slice (some ⟨gx, 0, none⟩) (s.ex.length + 1) cx) false E := T7.put 0 _ (.inl (by decide)) (by simp) (by simp) (by decide) (by simp) (by simp) (by simp) (by decide) (by simp) (by simp) (by simp) (by simp)
    have O8 := World.ownsRow.kept O7 (grownBy_setCell W7 g 0 (.int .i64 x0)) ne
    have B8 := B7.setCell (p := ⟨g, 0, none⟩) (Nat.le_refl _) (.int .i64 x0)
    have q0 := T7.c0
    have f0 := T7.fz 0
    obtain ⟨W8, hW8⟩ : ∃ W8, W7.setCell ⟨g, 0, none⟩ (.int .i64 x0) = W8 := ⟨_, rfl⟩
    rw [hW8] at T8 O8 B8
    have T9 : TW (W8.setCell ⟨g, 1, none⟩ (.int .i64 ((at_ : Int) + (hz : Int)))) g { t with next := x0 } (at_ + hz) (.slice (some ⟨bk, off, none⟩) L.length c) (.slice (some ⟨gx, 0, none⟩) (s.ex.length + 1) cx) false E := T8.put 1 _ (.inl (by decide)) (by simp) (by simp) (by decide) (by simp) (by simp) (by simp) (by decide) (by simp) (by simp) (by simp) (by simp)
    have O9 := World.ownsRow.kept O8 (grownBy_setCell W8 g 1 (.int .i64 ((at_ : Int) + (hz : Int)))) ne
    have B9 := B8.setCell (p := ⟨g, 1, none⟩) (Nat.le_refl _) (.int .i64 ((at_ : Int) + (hz : Int)))
    have q1 := T8.c1
    have f1 := T8.fz 1
    obtain ⟨W9, hW9⟩ : ∃ W9, W8.setCell ⟨g, 1, none⟩ (.int .i64 ((at_ : Int) + (hz : Int))) = W9 := ⟨_, rfl⟩
    rw [hW9] at T9 O9 B9
    have f16 := T9.c16
    rw [show ({ t with next := x0 } : St).cut = t.cut from rfl, TC.out] at f16
    have FIN : Hid (∀ m, OneTo W0 w g s at_ L (some ⟨bk, off, none⟩) c E (W9.drewN m)) := by
      intro m
      refine ⟨below_drewN B9 m, fun h0 => ⟨some ⟨gx, 0, none⟩, cx, ?_⟩⟩
      rw [HZ.out]
      have eX : s.ex.length + 1 = (after s).ex.length := by rw [after_ex]; simp
      have eh : (!(after s).met && decide ((after s).ex.length = 0)) = false := by rw [← eX]; simp
      have T10 := T9.grown (grownBy_drewN W9 m none) (by simp)
      have ea : after s = stepd t hz := by unfold after; rw [tt.out, HZ.out]
      refine ⟨?_, HR.out.row, HR.out.room, HR.out.cap, ?_, by omega, ?_, below_drewN B9 m, by rw [← eX]; omega, ?_, ?_⟩
      · rw [eh, ← eX]
        rw [ea]
        obtain ⟨k0, k1, k2, k3, k4, k5, k6, k16, k17, k18, k19, kz, kf⟩ := T10
        refine ⟨?_, k1, k2, k3, k4, k5, k6, k16, k17, k18, k19, kz, kf⟩
        have : (stepd t hz).next = x0 := by rw [← ea, after_next]; exact HX0.out
        rw [this]
        exact k0
      · rw [after_l, HZ.out, HR.out.lis, List.drop_drop]
      · show World.ownsRow _ _ _ _ _ _ _
        rw [← eX, after_ex, List.map_append]
        exact O9
      · intro hE
        rw [ea]
        exact PL.out hE
      · rw [ea]
        exact ZR.out
    clear T7 T8 T9 O7 O8 O9 B7 B8 B9 hx0 hcl7 r7 tn gl5
    go_wp2_with fail
    go_quiet (fail)
    go_wp2
    exact bodyPost_ret (v := .tuple #[.int .i64 8, .bool true]) (by simp [results, Try.results44, go_sem]) rfl ⟨by rw [HEV.out, HCUT.out], FIN.out nq⟩)
end Go.Proofs.Ytmnkdogdligckaa
