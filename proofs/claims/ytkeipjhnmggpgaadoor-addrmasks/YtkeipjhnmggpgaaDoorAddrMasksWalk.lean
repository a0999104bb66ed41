/- The law AddrMasks returns true. -/
import Derived.Test.YtkeipjhnmggpgaaDoorAlv
import Derived.Test.YtkeipjhnmggpgaaDoorMaskLaw
import Derived.Deep.RegionHeld3
import Derived.Deep.DeepCutAuto
namespace Go.Proofs.YtkeipjhnmggpgaaDoor
open Go.RowKit
set_option linter.unusedVariables false
set_option linter.unusedSimpArgs false

/-- The cells of a prefix and of an address. -/
structure Here (w : World) (gp ga : Nat) (pf ph pl pb f h l : Int) : Prop where
  p0 : w.cell? ⟨gp, 0, none⟩ = some (.int .i64 pf)
  p1 : w.cell? ⟨gp, 1, none⟩ = some (.int .u64 ph)
  p2 : w.cell? ⟨gp, 2, none⟩ = some (.int .u64 pl)
  p3 : w.cell? ⟨gp, 3, none⟩ = some (.int .i64 pb)
  a0 : w.cell? ⟨ga, 0, none⟩ = some (.int .i64 f)
  a1 : w.cell? ⟨ga, 1, none⟩ = some (.int .u64 h)
  a2 : w.cell? ⟨ga, 2, none⟩ = some (.int .u64 l)
theorem Here.below {w w' : World} {gp ga : Nat} {pf ph pl pb f h l : Int} (x : Here w gp ga pf ph pl pb f h l) (hb : Below w.heap.size w w') : Here w' gp ga pf ph pl pb f h l :=
  ⟨kept hb x.p0, kept hb x.p1, kept hb x.p2, kept hb x.p3, kept hb x.a0, kept hb x.a1, kept hb x.a2⟩

set_option maxRecDepth 100000 in
set_option maxHeartbeats 2000000 in
theorem addrMasks_walk (pf ph pl pb f h l b : Int) (w : World) (m : Int) (hop : Ad.ok ⟨pf, ph, pl⟩) (hoa : Ad.ok ⟨f, h, l⟩) (hm : w.cell? ⟨0, 0, none⟩ = some (.int .i64 m)) (ht : w.cell? ⟨5, 15, none⟩ = some (.int .u8 4)) :
    Calls Tryd.prog 8 #[.agg #[.int .i64 pf, .int .u64 ph, .int .u64 pl, .int .i64 pb], .agg #[.int .i64 f, .int .u64 h, .int .u64 l], .int .i64 b] w fun e w' => e = .returned (.bool true) ∧ Below w.heap.size w w' := by
  have kM := fun b w => mask_any f h l b w hoa
  have kH := fun w => has_any pf ph pl pb f h l w hoa
  have kR := fun w => rightPrefix_any pf ph pl pb w hop
  have kr := right_any f h l
  go_enter Tryd.func8, Tryd.ntmps8
  go_wp2_with fail
  have b0 : Below w.heap.size w ((w.alloc (.cells #[.int .i64 pf, .int .u64 ph, .int .u64 pl, .int .i64 pb] 26)).alloc (.cells #[.int .i64 f, .int .u64 h, .int .u64 l] 24)) := ((Below.refl _ _).alloc (Nat.le_refl _) _).alloc (by simp) _
  have x0 : Here ((w.alloc (.cells #[.int .i64 pf, .int .u64 ph, .int .u64 pl, .int .i64 pb] 26)).alloc (.cells #[.int .i64 f, .int .u64 h, .int .u64 l] 24)) w.heap.size (w.heap.size + 1) pf ph pl pb f h l :=
    ⟨by simp [go_sem], by simp [go_sem], by simp [go_sem], by simp [go_sem], by simp [go_sem], by simp [go_sem], by simp [go_sem]⟩
  have z0 := b0.size
  have m0 := kept b0 hm
  have t0 := kept b0 ht
  generalize (w.alloc (.cells #[.int .i64 pf, .int .u64 ph, .int .u64 pl, .int .i64 pb] 26)).alloc (.cells #[.int .i64 f, .int .u64 h, .int .u64 l] 24) = w0 at *
  generalize hg : w.heap.size = g at *
  have HG : Hid (w.heap.size = g) := hg
  clear hg
  refine (kM b w0).mono ?_
  rintro e w1 ⟨rfl, b1⟩
  have x1 := x0.below b1
  have m1 := kept b1 m0
  have t1 := kept b1 t0
  have B1 : Below g w w1 := b0.trans (b1.mono z0)
  have z1 : g ≤ w1.heap.size := by have := b1.size; omega
  have v1 : g + 1 < w1.heap.size := World.block_lt_of_cell? w1 _ x1.a0
  have hmk : (Ad.fits ⟨f, h, l⟩ b = true ∧ Ad.mask ⟨f, h, l⟩ b = (Ad.masked ⟨f, h, l⟩ b, 0)) ∨ (Ad.mask ⟨f, h, l⟩ b).2 = 1 := by
    by_cases hf : Ad.fits ⟨f, h, l⟩ b = true
    · exact .inl ⟨hf, mask_good hf⟩
    · have hf' : Ad.fits ⟨f, h, l⟩ b = false := by simpa using hf
      rw [mask_bad hf']
      exact .inr rfl
  have HK : Hid _ := hmk
  clear hmk
  generalize hM : Ad.mask ⟨f, h, l⟩ b = M at *
  obtain ⟨⟨mf, mh, ml⟩, me⟩ := M
  clear b0 b1 x0 m0 t0 z0
  go_upto_if 20 with (fail)
  go_cut [] (fun w' => Here w' g (g + 1) pf ph pl pb f h l ∧ w'.cell? ⟨0, 0, none⟩ = some (.int .i64 m) ∧ w'.cell? ⟨5, 15, none⟩ = some (.int .u8 4) ∧ Below g w w' ∧ g ≤ w'.heap.size)
  case first =>
    have X := (Below.refl w1.heap.size w1).alloc (Nat.le_refl _) (.cells #[.int .i64 mf, .int .u64 mh, .int .u64 ml] 24)
    have x2 := x1.below X
    have m2 := kept X m1
    have t2 := kept X t1
    have c0 : (w1.alloc (.cells #[.int .i64 mf, .int .u64 mh, .int .u64 ml] 24)).cell? ⟨w1.heap.size, 0, none⟩ = some (.int .i64 mf) := by simp
    have c1 : (w1.alloc (.cells #[.int .i64 mf, .int .u64 mh, .int .u64 ml] 24)).cell? ⟨w1.heap.size, 1, none⟩ = some (.int .u64 mh) := by simp
    have c2 : (w1.alloc (.cells #[.int .i64 mf, .int .u64 mh, .int .u64 ml] 24)).cell? ⟨w1.heap.size, 2, none⟩ = some (.int .u64 ml) := by simp
    have B2 : Below g w (w1.alloc (.cells #[.int .i64 mf, .int .u64 mh, .int .u64 ml] 24)) := B1.alloc z1 _
    have z2 : w1.heap.size + 1 ≤ (w1.alloc (.cells #[.int .i64 mf, .int .u64 mh, .int .u64 ml] 24)).heap.size := by simp
    generalize w1.alloc (.cells #[.int .i64 mf, .int .u64 mh, .int .u64 ml] 24) = w2 at *
    generalize w1.heap.size = g2 at *
    rcases HK.out with ⟨hf, he⟩ | he
    · have ho2 := masked_ok (b := b) hoa
      have hag := mask_again hoa hf
      have hhm := has_masked hf
      simp only [Prod.mk.injEq] at he
      obtain ⟨he1, he2⟩ := he
      subst he2
      rw [← he1] at ho2 hag hhm
      have kM2 := fun w => mask_any mf mh ml b w ho2
      rw [hag] at kM2
      simp only at kM2
      have kH2 := fun w => has_any mf mh ml b f h l w hoa
      rw [hhm] at kH2
      clear hag hhm he1 kM kH kR kr HK X hM
      obtain ⟨p0, p1, p2, p3, a0, a1, a2⟩ := x2
      go_wp2_with fail
      refine (kM2 w2).mono ?_
      rintro e w3 ⟨rfl, b3⟩
      have Y := b3.alloc b3.size (.cells #[.int .i64 mf, .int .u64 mh, .int .u64 ml] 24)
      have P0 := kept Y p0; have P1 := kept Y p1; have P2 := kept Y p2; have P3 := kept Y p3; have A0 := kept Y a0; have A1 := kept Y a1; have A2 := kept Y a2
      have C0 := kept Y c0; have C1 := kept Y c1; have C2 := kept Y c2
      have M3 := kept Y m2; have T3 := kept Y t2
      have n0 : (w3.alloc (.cells #[.int .i64 mf, .int .u64 mh, .int .u64 ml] 24)).cell? ⟨w3.heap.size, 0, none⟩ = some (.int .i64 mf) := by simp
      have n1 : (w3.alloc (.cells #[.int .i64 mf, .int .u64 mh, .int .u64 ml] 24)).cell? ⟨w3.heap.size, 1, none⟩ = some (.int .u64 mh) := by simp
      have n2 : (w3.alloc (.cells #[.int .i64 mf, .int .u64 mh, .int .u64 ml] 24)).cell? ⟨w3.heap.size, 2, none⟩ = some (.int .u64 ml) := by simp
      have B3 : Below g w (w3.alloc (.cells #[.int .i64 mf, .int .u64 mh, .int .u64 ml] 24)) := B2.trans (Y.mono (by omega))
      have z3 : g ≤ (w3.alloc (.cells #[.int .i64 mf, .int .u64 mh, .int .u64 ml] 24)).heap.size := by have := b3.size; simp; omega
      clear p0 p1 p2 p3 a0 a1 a2 c0 c1 c2 m2 t2
      go_wp2_with fail
      generalize w3.alloc (.cells #[.int .i64 mf, .int .u64 mh, .int .u64 ml] 24) = w4 at *
      refine (kH2 w4).mono ?_
      rintro e w5 ⟨rfl, b5⟩
      have z5 := b5.size
      go_wp2
      go_meet
      exact ⟨⟨kept b5 P0, kept b5 P1, kept b5 P2, kept b5 P3, kept b5 A0, kept b5 A1, kept b5 A2⟩, kept b5 M3, kept b5 T3, B3.trans (b5.mono z3), by omega⟩
    · have he' : me = 1 := he
      subst he'
      go_wp2
      go_meet
      exact ⟨x2, m2, t2, B2, by omega⟩
  case rest =>
    obtain ⟨⟨p0, p1, p2, p3, a0, a1, a2⟩, mc, tc, Bc, zc⟩ := hcut
    have xc : Here wc g (g + 1) pf ph pl pb f h l := ⟨p0, p1, p2, p3, a0, a1, a2⟩
    clear B1 z1 v1 m1 t1 x1 HK kM hM
    go_wp2_with fail
    refine (kR wc).mono ?_
    rintro e w6 ⟨rfl, b6⟩
    have x6 := xc.below b6
    have m6 := kept b6 mc
    have t6 := kept b6 tc
    have B6 : Below g w w6 := Bc.trans (b6.mono zc)
    have z6 : g ≤ w6.heap.size := by have := b6.size; omega
    have v6 : g + 1 < w6.heap.size := World.block_lt_of_cell? w6 _ x6.a0
    clear p0 p1 p2 p3 a0 a1 a2 xc mc tc Bc zc b6 kR
    have hno : ¬ (Ad.rightPrefix ⟨pf, ph, pl⟩ pb = true ∧ Ad.right ⟨f, h, l⟩ = true ∧ f = pf) → Ad.has ⟨pf, ph, pl⟩ pb ⟨f, h, l⟩ = false := fun hh => by
      cases hv : Ad.has ⟨pf, ph, pl⟩ pb ⟨f, h, l⟩ with
      | false => rfl
      | true => exact absurd (has_all hoa hv) hh
    have hyes : Ad.rightPrefix ⟨pf, ph, pl⟩ pb = true → Ad.right ⟨f, h, l⟩ = true → f = pf → Ad.fits ⟨f, h, l⟩ pb = true := fun h1 h2 h3 => fits_of h1 h2 h3
    have HN : Hid _ := hno
    have HY : Hid _ := hyes
    clear hno hyes
    cases hR : Ad.rightPrefix ⟨pf, ph, pl⟩ pb with
    | false =>
      have hH := HN.out (by rw [hR]; simp)
      rw [hH] at kH
      have P0 := x6.p0; have P1 := x6.p1; have P2 := x6.p2; have P3 := x6.p3; have A0 := x6.a0; have A1 := x6.a1; have A2 := x6.a2
      clear HN HY hR hH
      go_wp2_with fail
      refine (kH w6).mono ?_
      rintro e w7 ⟨rfl, b7⟩
      have m7 := kept b7 m6
      have t7 := kept b7 t6
      have z7 := b7.size
      go_wp2_with fail
      refine (alive_any w7 m m7 t7).mono ?_
      rintro e w8 ⟨rfl, b8⟩
      go_wp2
      go_ret
      exact ⟨rfl, by rw [HG.out]; exact B6.trans ((b7.mono z6).trans (b8.mono (by omega)))⟩
    | true =>
      have X := (Below.refl w6.heap.size w6).alloc (Nat.le_refl _) (.cells #[.int .i64 f, .int .u64 h, .int .u64 l] 24)
      have y6 := x6.below X
      have n6 := kept X m6
      have s6 := kept X t6
      have C6 : Below g w (w6.alloc (.cells #[.int .i64 f, .int .u64 h, .int .u64 l] 24)) := B6.alloc z6 _
      have u6 : g ≤ (w6.alloc (.cells #[.int .i64 f, .int .u64 h, .int .u64 l] 24)).heap.size := by simp; omega
      have P0 := x6.p0; have P1 := x6.p1; have P2 := x6.p2; have P3 := x6.p3; have A0 := x6.a0; have A1 := x6.a1; have A2 := x6.a2
      go_wp2_with fail
      refine (kr w6).mono ?_
      rintro e w7 ⟨rfl, rfl⟩
      clear P0 P1 P2 P3 A0 A1 A2 x6 m6 t6 B6 z6 v6 X kr
      generalize w6.alloc (.cells #[.int .i64 f, .int .u64 h, .int .u64 l] 24) = W at *
      have vW : g + 1 < W.heap.size := World.block_lt_of_cell? W _ y6.a0
      have P0 := y6.p0; have P1 := y6.p1; have P2 := y6.p2; have P3 := y6.p3; have A0 := y6.a0; have A1 := y6.a1; have A2 := y6.a2
      have done : ∀ (_ : Ad.has ⟨pf, ph, pl⟩ pb ⟨f, h, l⟩ = false), True := fun _ => trivial
      by_cases hc : Ad.right ⟨f, h, l⟩ = true ∧ f = pf
      · obtain ⟨hr, rfl⟩ := hc
        have hfit := HY.out hR hr rfl
        have hkm := mask_any f h l pb W hoa
        have hmg := mask_good hfit
        have hhas : Ad.has ⟨f, ph, pl⟩ pb ⟨f, h, l⟩ = (Ad.masked ⟨f, h, l⟩ pb).same ⟨f, ph, pl⟩ := by unfold Ad.has; rw [hmg]; simp
        rw [hmg] at hkm
        have hkf : (Ad.masked ⟨f, h, l⟩ pb).fam = f := rfl
        generalize Ad.masked ⟨f, h, l⟩ pb = K at *
        obtain ⟨kf, kh, kl⟩ := K
        simp only at hkm hkf
        subst hkf
        have hkf : True := trivial
        rw [hr]
        clear HN HY hR hr hfit hmg done
        go_wp2_with fail
        refine hkm.mono ?_
        rintro e w7 ⟨rfl, b7⟩
        have Y := b7.alloc b7.size (.cells #[.int .i64 kf, .int .u64 kh, .int .u64 kl] 24)
        have F0 := kept Y P0; have F1 := kept Y P1; have F2 := kept Y P2; have F3 := kept Y P3; have G0 := kept Y A0; have G1 := kept Y A1; have G2 := kept Y A2
        have m8 := kept Y n6
        have t8 := kept Y s6
        have c0 : (w7.alloc (.cells #[.int .i64 kf, .int .u64 kh, .int .u64 kl] 24)).cell? ⟨w7.heap.size, 0, none⟩ = some (.int .i64 kf) := by simp
        have c1 : (w7.alloc (.cells #[.int .i64 kf, .int .u64 kh, .int .u64 kl] 24)).cell? ⟨w7.heap.size, 1, none⟩ = some (.int .u64 kh) := by simp
        have c2 : (w7.alloc (.cells #[.int .i64 kf, .int .u64 kh, .int .u64 kl] 24)).cell? ⟨w7.heap.size, 2, none⟩ = some (.int .u64 kl) := by simp
        have B8 : Below g w (w7.alloc (.cells #[.int .i64 kf, .int .u64 kh, .int .u64 kl] 24)) := C6.trans (Y.mono u6)
        have z8 : g ≤ (w7.alloc (.cells #[.int .i64 kf, .int .u64 kh, .int .u64 kl] 24)).heap.size := by have := b7.size; simp; omega
        clear P0 P1 P2 P3 A0 A1 A2 Y y6 n6 s6 hkm
        go_upto_region 9 with (fail)
        generalize w7.alloc (.cells #[.int .i64 kf, .int .u64 kh, .int .u64 kl] 24) = w8 at *
        generalize w7.heap.size = g8 at *
        have kA' : ∀ W', Below w8.heap.size w8 W' → Calls Tryd.prog 17 #[] W' fun e w' => e = .returned (.bool true) ∧ w'.cell? ⟨g, 0, none⟩ = some (.int .i64 kf) ∧ w'.cell? ⟨g, 1, none⟩ = some (.int .u64 ph) ∧ w'.cell? ⟨g, 2, none⟩ = some (.int .u64 pl) ∧ w'.cell? ⟨g, 3, none⟩ = some (.int .i64 pb) ∧ w'.cell? ⟨g + 1, 0, none⟩ = some (.int .i64 kf) ∧ w'.cell? ⟨g + 1, 1, none⟩ = some (.int .u64 h) ∧ w'.cell? ⟨g + 1, 2, none⟩ = some (.int .u64 l) ∧ w'.cell? ⟨g8, 0, none⟩ = some (.int .i64 kf) ∧ w'.cell? ⟨g8, 1, none⟩ = some (.int .u64 kh) ∧ w'.cell? ⟨g8, 2, none⟩ = some (.int .u64 kl) ∧ Below w8.heap.size w8 w' := fun W' hW => by
          refine (alive_any W' m (kept hW m8) (kept hW t8)).mono ?_
          rintro e w' ⟨rfl, hb⟩
          have hb' : Below w8.heap.size w8 w' := hW.trans (hb.mono hW.size)
          exact ⟨rfl, kept hb' F0, kept hb' F1, kept hb' F2, kept hb' F3, kept hb' G0, kept hb' G1, kept hb' G2, kept hb' c0, kept hb' c1, kept hb' c2, hb'⟩
        by_cases hk : kh = ph ∧ kl = pl
        · obtain ⟨rfl, rfl⟩ := hk
          have hv : Ad.has ⟨kf, kh, kl⟩ pb ⟨kf, h, l⟩ = true := by rw [hhas]; exact same_self _
          have kH' : ∀ W', Below w8.heap.size w8 W' → Calls Tryd.prog 15 #[.agg #[.int .i64 kf, .int .u64 kh, .int .u64 kl, .int .i64 pb], .agg #[.int .i64 kf, .int .u64 h, .int .u64 l]] W' fun e w' => e = .returned (.bool true) ∧ w'.cell? ⟨g, 0, none⟩ = some (.int .i64 kf) ∧ w'.cell? ⟨g, 1, none⟩ = some (.int .u64 kh) ∧ w'.cell? ⟨g, 2, none⟩ = some (.int .u64 kl) ∧ w'.cell? ⟨g, 3, none⟩ = some (.int .i64 pb) ∧ w'.cell? ⟨g + 1, 0, none⟩ = some (.int .i64 kf) ∧ w'.cell? ⟨g + 1, 1, none⟩ = some (.int .u64 h) ∧ w'.cell? ⟨g + 1, 2, none⟩ = some (.int .u64 l) ∧ w'.cell? ⟨g8, 0, none⟩ = some (.int .i64 kf) ∧ w'.cell? ⟨g8, 1, none⟩ = some (.int .u64 kh) ∧ w'.cell? ⟨g8, 2, none⟩ = some (.int .u64 kl) ∧ Below w8.heap.size w8 w' := fun W' hW => by
            have := kH W'
            rw [hv] at this
            refine this.mono ?_
            rintro e w' ⟨rfl, hb⟩
            have hb' : Below w8.heap.size w8 w' := hW.trans (hb.mono hW.size)
            exact ⟨rfl, kept hb' F0, kept hb' F1, kept hb' F2, kept hb' F3, kept hb' G0, kept hb' G1, kept hb' G2, kept hb' c0, kept hb' c1, kept hb' c2, hb'⟩
          clear kH hv hhas hkf

          go_wp2
          go_region_held3 (fun w'' => w''.cell? ⟨g, 0, none⟩ = some (.int .i64 kf) ∧ w''.cell? ⟨g, 1, none⟩ = some (.int .u64 kh) ∧ w''.cell? ⟨g, 2, none⟩ = some (.int .u64 kl) ∧ w''.cell? ⟨g, 3, none⟩ = some (.int .i64 pb) ∧ w''.cell? ⟨g + 1, 0, none⟩ = some (.int .i64 kf) ∧ w''.cell? ⟨g + 1, 1, none⟩ = some (.int .u64 h) ∧ w''.cell? ⟨g + 1, 2, none⟩ = some (.int .u64 l) ∧ w''.cell? ⟨g8, 0, none⟩ = some (.int .i64 kf) ∧ w''.cell? ⟨g8, 1, none⟩ = some (.int .u64 kh) ∧ w''.cell? ⟨g8, 2, none⟩ = some (.int .u64 kl)) (go_keep) (first
            | (go_at_call 15; refine (kH' _ (Below.refl _ _).drew).mono ?_; rintro e w9 ⟨rfl, q0, q1, q2, q3, q4, q5, q6, q7, q8, q9, b9⟩)
            | (go_at_call 17; refine (kA' _ b9).mono ?_; rintro e w10 ⟨rfl, r0, r1, r2, r3, r4, r5, r6, r7, r8, r9, b10⟩))
          all_goals go_wp2
          all_goals go_ret
          all_goals exact ⟨rfl, by rw [HG.out]; exact B8.trans (b10.mono z8)⟩

        · have hv : Ad.has ⟨kf, ph, pl⟩ pb ⟨kf, h, l⟩ = false := by
            rw [hhas]
            cases hs : Ad.same ⟨kf, kh, kl⟩ ⟨kf, ph, pl⟩ with
            | false => rfl
            | true => exact absurd (by have := Ad.same_iff.1 hs; simp only [Ad.mk.injEq, true_and] at this; exact this) hk
          have kH' : ∀ W', Below w8.heap.size w8 W' → Calls Tryd.prog 15 #[.agg #[.int .i64 kf, .int .u64 ph, .int .u64 pl, .int .i64 pb], .agg #[.int .i64 kf, .int .u64 h, .int .u64 l]] W' fun e w' => e = .returned (.bool false) ∧ w'.cell? ⟨g, 0, none⟩ = some (.int .i64 kf) ∧ w'.cell? ⟨g, 1, none⟩ = some (.int .u64 ph) ∧ w'.cell? ⟨g, 2, none⟩ = some (.int .u64 pl) ∧ w'.cell? ⟨g, 3, none⟩ = some (.int .i64 pb) ∧ w'.cell? ⟨g + 1, 0, none⟩ = some (.int .i64 kf) ∧ w'.cell? ⟨g + 1, 1, none⟩ = some (.int .u64 h) ∧ w'.cell? ⟨g + 1, 2, none⟩ = some (.int .u64 l) ∧ w'.cell? ⟨g8, 0, none⟩ = some (.int .i64 kf) ∧ w'.cell? ⟨g8, 1, none⟩ = some (.int .u64 kh) ∧ w'.cell? ⟨g8, 2, none⟩ = some (.int .u64 kl) ∧ Below w8.heap.size w8 w' := fun W' hW => by
            have := kH W'
            rw [hv] at this
            refine this.mono ?_
            rintro e w' ⟨rfl, hb⟩
            have hb' : Below w8.heap.size w8 w' := hW.trans (hb.mono hW.size)
            exact ⟨rfl, kept hb' F0, kept hb' F1, kept hb' F2, kept hb' F3, kept hb' G0, kept hb' G1, kept hb' G2, kept hb' c0, kept hb' c1, kept hb' c2, hb'⟩
          clear kH hv hhas hkf
          by_cases hk1 : kh = ph
          · have hk2 : ¬ kl = pl := fun e => hk ⟨hk1, e⟩
            subst hk1
            clear hk
            go_wp2
            go_region_held3 (fun w'' => w''.cell? ⟨g, 0, none⟩ = some (.int .i64 kf) ∧ w''.cell? ⟨g, 1, none⟩ = some (.int .u64 kh) ∧ w''.cell? ⟨g, 2, none⟩ = some (.int .u64 pl) ∧ w''.cell? ⟨g, 3, none⟩ = some (.int .i64 pb) ∧ w''.cell? ⟨g + 1, 0, none⟩ = some (.int .i64 kf) ∧ w''.cell? ⟨g + 1, 1, none⟩ = some (.int .u64 h) ∧ w''.cell? ⟨g + 1, 2, none⟩ = some (.int .u64 l) ∧ w''.cell? ⟨g8, 0, none⟩ = some (.int .i64 kf) ∧ w''.cell? ⟨g8, 1, none⟩ = some (.int .u64 kh) ∧ w''.cell? ⟨g8, 2, none⟩ = some (.int .u64 kl)) (go_keep) (first
              | (go_at_call 15; refine (kH' _ (Below.refl _ _).drew).mono ?_; rintro e w9 ⟨rfl, q0, q1, q2, q3, q4, q5, q6, q7, q8, q9, b9⟩)
              | (go_at_call 17; refine (kA' _ b9).mono ?_; rintro e w10 ⟨rfl, r0, r1, r2, r3, r4, r5, r6, r7, r8, r9, b10⟩))
            all_goals go_wp2
            all_goals go_ret
            all_goals exact ⟨rfl, by rw [HG.out]; exact B8.trans (b10.mono z8)⟩
          · clear hk
            go_wp2
            go_region_held3 (fun w'' => w''.cell? ⟨g, 0, none⟩ = some (.int .i64 kf) ∧ w''.cell? ⟨g, 1, none⟩ = some (.int .u64 ph) ∧ w''.cell? ⟨g, 2, none⟩ = some (.int .u64 pl) ∧ w''.cell? ⟨g, 3, none⟩ = some (.int .i64 pb) ∧ w''.cell? ⟨g + 1, 0, none⟩ = some (.int .i64 kf) ∧ w''.cell? ⟨g + 1, 1, none⟩ = some (.int .u64 h) ∧ w''.cell? ⟨g + 1, 2, none⟩ = some (.int .u64 l) ∧ w''.cell? ⟨g8, 0, none⟩ = some (.int .i64 kf) ∧ w''.cell? ⟨g8, 1, none⟩ = some (.int .u64 kh) ∧ w''.cell? ⟨g8, 2, none⟩ = some (.int .u64 kl)) (go_keep) (first
              | (go_at_call 15; refine (kH' _ (Below.refl _ _).drew).mono ?_; rintro e w9 ⟨rfl, q0, q1, q2, q3, q4, q5, q6, q7, q8, q9, b9⟩)
              | (go_at_call 17; refine (kA' _ b9).mono ?_; rintro e w10 ⟨rfl, r0, r1, r2, r3, r4, r5, r6, r7, r8, r9, b10⟩))
            all_goals go_wp2
            all_goals go_ret
            all_goals exact ⟨rfl, by rw [HG.out]; exact B8.trans (b10.mono z8)⟩
      · have hH := HN.out (by rintro ⟨_, h2, h3⟩; exact hc ⟨h2, h3⟩)
        rw [hH] at kH
        clear HN HY hR hH done
        cases hr : Ad.right ⟨f, h, l⟩ with
        | false =>
          clear hc hr
          go_wp2_with fail
          refine (kH W).mono ?_
          rintro e w7 ⟨rfl, b7⟩
          have m7 := kept b7 n6
          have t7 := kept b7 s6
          have z7 := b7.size
          go_wp2_with fail
          refine (alive_any w7 m m7 t7).mono ?_
          rintro e w8 ⟨rfl, b8⟩
          go_wp2
          go_ret
          exact ⟨rfl, by rw [HG.out]; exact C6.trans ((b7.mono u6).trans (b8.mono (by omega)))⟩
        | true =>
          have hne : ¬ f = pf := fun e => hc ⟨hr, e⟩
          clear hc hr
          go_wp2_with fail
          refine (kH W).mono ?_
          rintro e w7 ⟨rfl, b7⟩
          have m7 := kept b7 n6
          have t7 := kept b7 s6
          have z7 := b7.size
          go_wp2_with fail
          refine (alive_any w7 m m7 t7).mono ?_
          rintro e w8 ⟨rfl, b8⟩
          go_wp2
          go_ret
          exact ⟨rfl, by rw [HG.out]; exact C6.trans ((b7.mono u6).trans (b8.mono (by omega)))⟩
end Go.Proofs.YtkeipjhnmggpgaaDoor
