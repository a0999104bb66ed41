/- Texts joined: AtL -/
import Derived.Test.YtakajiedajfkjaaDoorApx19
import Derived.Test.YtakajiedajfkjaaDoorApx24
import Derived.Test.YtakajiedajfkjaaDoorApx31
namespace Go.Proofs.YtakajiedajfkjaaDoor
open Go.RowKit
set_option linter.unusedVariables false
set_option linter.unusedSimpArgs false
theorem rpp_one (x : List UInt8) : rppB [x] = if (parseB x).2 = 0 then (((parseB x).1, (parseB x).1.width), 0) else ((⟨0, 0, 0⟩, 0), 1) := rfl
theorem rpp_two (x t : List UInt8) : rppB [x, t] = if (parseB x).2 = 0 then (if (num 128 t).2 = true ∧ (parseB x).1.rightPrefix (num 128 t).1 = true then (((parseB x).1, (num 128 t).1), 0) else ((⟨0, 0, 0⟩, 0), 1)) else ((⟨0, 0, 0⟩, 0), 1) := rfl
theorem rpp_bad (x : List UInt8) (L : List (List UInt8)) (h : ¬ (parseB x).2 = 0 ∨ 2 < (x :: L).length) : rppB (x :: L) = ((⟨0, 0, 0⟩, 0), 1) := by
  match L with
  | [] => rw [rpp_one, if_neg]; rcases h with h | h; exact h; simp at h
  | [t] => rw [rpp_two, if_neg]; rcases h with h | h; exact h; simp at h
  | _ :: _ :: _ => rfl
set_option maxRecDepth 100000 in
set_option maxHeartbeats 4000000 in
theorem rpprefix_any (s : ByteArray) (w : World) (hs : s.size < 4294967281) :
    Calls Tryd.prog 28 #[.string s] w fun e w' => e = .returned (.tuple #[pfv (ppB s.data.toList).1, .int .i64 (ppB s.data.toList).2]) ∧ Below w.heap.size w w' := by
  have e1 : s.data.toList.length = s.size := Array.length_toList
  obtain ⟨T, hT⟩ : ∃ T, ppB s.data.toList = T := ⟨_, rfl⟩
  rw [hT]
  rw [← rpp_eq] at hT
  obtain ⟨⟨⟨tf, th, tl⟩, tb⟩, te⟩ := T
  have HT : Hid (rppB (spl 47 s.data.toList) = ((⟨tf, th, tl⟩, tb), te)) := hT
  have hsz : Hid (∀ x ∈ spl 47 s.data.toList, x.length ≤ s.size) := fun x hx => by rw [← e1]; exact spl_sub 47 _ x hx
  have hln : Hid ((spl 47 s.data.toList).length ≤ s.size + 1) := by rw [← e1]; exact spl_len 47 _
  have hpos : Hid (0 < (spl 47 s.data.toList).length) := spl_pos 47 _
  have hsp := fun w => rsplit_any s 47 47 rfl w hs
  generalize spl 47 s.data.toList = P at *
  clear hT e1
  obtain ⟨W0, hW0⟩ : ∃ W0, w.alloc (.cells #[.int .i64 0, .int .u64 0, .int .u64 0, .int .i64 0] 26) = W0 := ⟨_, rfl⟩
  have fin : Hid (∀ wX, Below W0.heap.size W0 wX → wX.cell? ⟨w.heap.size, 0, none⟩ = some (.int .i64 0) ∧ wX.cell? ⟨w.heap.size, 1, none⟩ = some (.int .u64 0) ∧ wX.cell? ⟨w.heap.size, 2, none⟩ = some (.int .u64 0) ∧ wX.cell? ⟨w.heap.size, 3, none⟩ = some (.int .i64 0) ∧ (∀ o, wX.frozen? ⟨w.heap.size, o, none⟩ = false) ∧ w.heap.size < wX.heap.size ∧ Below w.heap.size w wX) := by
    show _
    rw [← hW0]
    intro wX bb
    exact res4 (by simpa using bb)
  have hz0 : w.heap.size < W0.heap.size := by rw [← hW0]; simp
  obtain ⟨g0, hg0⟩ : ∃ g0, w.heap.size = g0 := ⟨_, rfl⟩
  have HG0 : Hid (w.heap.size = g0) := hg0
  rw [hg0] at fin hz0
  go_enter Tryd.func28, Tryd.ntmps28
  rw [hg0]
  clear hg0
  go_wp2_with fail
  have hg0 := HG0.out
  try rw [hg0]
  clear hg0 hW0
  refine (hsp _).mono ?_
  rintro e w1 ⟨a0, k0, ws, rfl, G⟩
  have own0 := G.owns
  have b1 := G.below
  have z1 := b1.size
  have hP : Hid (ws.map (·.data.toList) = P) := G.parts
  have hlen : ws.length ≤ s.size + 1 := by have := hln.out; rw [← hP.out, List.length_map] at this; exact this
  have hlpos : 0 < ws.length := by have := hpos.out; rw [← hP.out, List.length_map] at this; exact this
  obtain ⟨bk, off, ha0, hcc⟩ := own0.row hlpos
  subst ha0
  obtain ⟨y, hy⟩ : ∃ y, ws[0]? = some y := ⟨_, List.getElem?_eq_getElem hlpos⟩
  have cy := hcc 0 y hy
  rw [Nat.add_zero] at cy
  have hyP : Hid (∃ L, P = y.data.toList :: L ∧ L.length + 1 = ws.length) := by
    show ∃ L, _
    rw [← hP.out]
    match ws, hy with
    | v :: r, h =>
      have : v = y := by simpa using h
      subst this
      exact ⟨r.map (·.data.toList), rfl, by simp⟩
  have hys : y.size < 4294967281 := by
    have := hsz.out y.data.toList (by rw [← hP.out]; exact List.mem_map_of_mem (List.mem_of_getElem? hy))
    have e : y.data.toList.length = y.size := Array.length_toList
    omega
  have c2 : Hid (ws.length = 2 → ∃ z, w1.cell? ⟨bk, off + 1, none⟩ = some (.string z) ∧ z.size ≤ 9223372036854775807 ∧ P = [y.data.toList, z.data.toList]) := fun h2 => by
    obtain ⟨z, hz⟩ : ∃ z, ws[1]? = some z := ⟨_, List.getElem?_eq_getElem (by omega)⟩
    have hzz := hsz.out z.data.toList (by rw [← hP.out]; exact List.mem_map_of_mem (List.mem_of_getElem? hz))
    have e : z.data.toList.length = z.size := Array.length_toList
    refine ⟨z, hcc 1 z hz, by omega, ?_⟩
    rw [← hP.out]
    match ws, hy, hz, h2 with
    | [u, v], hu, hv, _ =>
      have : u = y := by simpa using hu
      have : v = z := by simpa using hv
      simp_all
  have hps := fun w => rparse_any y w hys
  have hok := parse_ok y.data.toList
  have hbadP : Hid (¬ (parseB y.data.toList).2 = 0 ∨ 2 < ws.length → rppB P = ((⟨0, 0, 0⟩, 0), 1)) := fun h => by
    obtain ⟨L, hL, hLl⟩ := hyP.out
    rw [hL]
    exact rpp_bad _ _ (by rcases h with h | h; exact .inl h; right; simp only [List.length_cons]; omega)
  have h1P : Hid (ws.length = 1 → rppB P = if (parseB y.data.toList).2 = 0 then (((parseB y.data.toList).1, (parseB y.data.toList).1.width), 0) else ((⟨0, 0, 0⟩, 0), 1)) := fun h => by
    obtain ⟨L, hL, hLl⟩ := hyP.out
    have : L = [] := List.eq_nil_of_length_eq_zero (by omega)
    rw [hL, this, rpp_one]
  have h2P : Hid (∀ z : List UInt8, P = [y.data.toList, z] → rppB P = if (parseB y.data.toList).2 = 0 then (if (num 128 z).2 = true ∧ (parseB y.data.toList).1.rightPrefix (num 128 z).1 = true then (((parseB y.data.toList).1, (num 128 z).1), 0) else ((⟨0, 0, 0⟩, 0), 1)) else ((⟨0, 0, 0⟩, 0), 1)) := fun z h => by rw [h, rpp_two]
  generalize parseB y.data.toList = PB at *
  obtain ⟨⟨f, h, l⟩, pe⟩ := PB
  simp only at hok hps
  obtain ⟨ho, he01, hrt⟩ := hok
  clear hsp G own0 hcc hy hsz hln hpos hyP
  go_wp2_with fail
  refine (hps w1).mono ?_
  rintro e3 w3 ⟨rfl, b3⟩
  have z3 := b3.size
  have b03 : Below W0.heap.size W0 w3 := b1.trans (b3.mono z1)
  have z03 := b03.size
  have bad : Hid ((tf = 0 ∧ th = 0 ∧ tl = 0 ∧ tb = 0 ∧ te = 1) ↔ ((⟨0, 0, 0⟩, 0), 1) = (((⟨tf, th, tl⟩ : Ad), tb), te)) := by
    show _ ↔ _
    simp only [Prod.mk.injEq, Ad.mk.injEq]
    omega
  have c23 : Hid (ws.length = 2 → ∃ z, w3.cell? ⟨bk, off + 1, none⟩ = some (.string z) ∧ z.size ≤ 9223372036854775807 ∧ P = [y.data.toList, z.data.toList]) := fun h2 => by
    obtain ⟨z, h3, h4, h5⟩ := c2.out h2
    exact ⟨z, kept b3 h3, h4, h5⟩
  clear c2 hps b3 b1 cy
  by_cases he : pe = 0
  · subst he
    by_cases hl2 : 2 < ws.length
    · obtain ⟨rfl, rfl, rfl, rfl, rfl⟩ := bad.out.2 ((hbadP.out (.inr hl2)).symm.trans HT.out)
      obtain ⟨C0, C1, C2, C3, RF, h6z, B6⟩ := fin.out _ (b03.alloc z03 (.cells #[.int .i64 f, .int .u64 h, .int .u64 l] 24))
      have i2 : (2 : Int) < (ws.length : Int) := by omega
      clear HT bad fin hbadP h1P h2P c23
      go_wp2
      exact bodyPost_ret (v := .tuple #[.agg #[.int .i64 0, .int .u64 0, .int .u64 0, .int .i64 0], .int .i64 1]) (by simp [results, Tryd.results28, go_sem, C0, C1, C2, C3, h6z]) rfl ⟨rfl, (((B6.setCell (by simp) _).setCell (by simp) _).setCell (by simp) _).setCell (by simp) _⟩
    · have i2 : ¬ (2 : Int) < (ws.length : Int) := by omega
      have hrp := fun n w => rrightPrefix_any f h l n w ho
      have hsi := fun w => rsize_any f w
      obtain ⟨N, hN⟩ : ∃ N : Int, (if f = 4 then 32 else 128) = N := ⟨_, rfl⟩
      have hNw : Hid (Ad.width ⟨f, h, l⟩ = N) := by show _ = _; rw [← hN]; rfl
      have hfull : Hid (Ad.rightPrefix ⟨f, h, l⟩ N = true) := by show _ = _; rw [← hNw.out]; exact full_prefix (hrt rfl)
      rw [hN] at hsi
      clear hN hbadP he01 hrt ho
      go_wp2
      generalize hg : w3.heap.size = g3 at *
      have HG : Hid (w3.heap.size = g3) := hg
      clear hg
      go_cut [7] (fun s w'' => ∃ pb : Nat, s = .pointer (some ⟨pb, 0, none⟩) ∧ w''.cell? ⟨pb, 0, none⟩ = some (.int .i64 f) ∧ w''.cell? ⟨pb, 1, none⟩ = some (.int .u64 h) ∧ w''.cell? ⟨pb, 2, none⟩ = some (.int .u64 l) ∧ w''.cell? ⟨pb, 3, none⟩ = some (.int .i64 N) ∧
          (∀ o, w''.frozen? ⟨pb, o, none⟩ = false) ∧ g3 < pb ∧ pb < w''.heap.size ∧ Below g3 w3 w'')
      case first =>
        have hg := HG.out
        subst hg
        go_region_held3 (fun w'' => w''.cell? ⟨w3.heap.size, 0, none⟩ = some (.int .i64 f) ∧ w''.cell? ⟨w3.heap.size, 1, none⟩ = some (.int .u64 h) ∧ w''.cell? ⟨w3.heap.size, 2, none⟩ = some (.int .u64 l)) (go_keep) (first
          | (go_at_call 36; refine (hsi _).mono ?_; rintro e w' ⟨rfl, rfl⟩))
        all_goals go_wp2
        all_goals go_meet
        all_goals exact ⟨_, rfl, by simp [go_sem], by simp [go_sem], by simp [go_sem], by simp [go_sem], fun o => by simp [go_sem], by omega, by simp <;> omega, by repeat (first | exact Below.refl _ _ | refine Below.drew ?_ | refine Below.alloc ?_ (by simp <;> omega) _)⟩
      case rest =>
        obtain ⟨pb, rfl, P0, P1, P2, P3, pf, hpb, hpz, bc⟩ := hcut
        have b0c : Below W0.heap.size W0 wc := b03.trans (bc.mono z03)
        have zc := b0c.size
        have ne1 : pb ≠ g0 := by omega
        have ne2 : g0 ≠ pb := by omega
        have c24 : Hid (ws.length = 2 → ∃ z, wc.cell? ⟨bk, off + 1, none⟩ = some (.string z) ∧ z.size ≤ 9223372036854775807 ∧ P = [y.data.toList, z.data.toList]) := fun h2 => by
          obtain ⟨z, h3, h4, h5⟩ := c23.out h2
          refine ⟨z, ?_, h4, h5⟩
          have hlt := World.block_lt_of_cell? w3 _ h3
          rw [HG.out] at hlt
          exact (bc.cell (p := ⟨bk, off + 1, none⟩) hlt).trans h3
        clear b03 bc hsi c23
        by_cases hl1 : ws.length = 2
        · obtain ⟨z, cz, hzs, hPz⟩ := c24.out hl1
          have hq := h2P.out z.data.toList hPz
          have hnum := fun w => rnum10_any z 128 w hzs (by omega) (by omega)
          rw [rnum10 128 (by omega)] at hnum
          have hbd := num_bd 128 z.data.toList
          generalize num 128 z.data.toList = NN at *
          obtain ⟨n, nk⟩ := NN
          simp only at hq hnum hbd
          rw [if_pos trivial] at hq
          have HT2 : Hid ((if nk = true ∧ Ad.rightPrefix ⟨f, h, l⟩ n = true then (((⟨f, h, l⟩ : Ad), n), (0 : Int)) else ((⟨0, 0, 0⟩, 0), 1)) = ((⟨tf, th, tl⟩, tb), te)) := hq.symm.trans HT.out
          have i3 : ((ws.length : Int) == 2) = true := by simp; omega
          have i4 : (1 : Int) < (ws.length : Int) := by omega
          clear hq HT h1P h2P c24 hPz hl1 hfull hNw hl2
          cases nk with
          | false =>
            obtain ⟨rfl, rfl, rfl, rfl, rfl⟩ := bad.out.2 (by have := HT2.out; rw [if_neg (by simp)] at this; exact this)
            obtain ⟨C0, C1, C2, C3, RF, h6z, B6⟩ := fin.out _ b0c
            clear HT2 bad fin hrp
            go_wp2_with (go_at_call 42; refine (hnum _).mono ?_; rintro e w' ⟨rfl, rfl⟩)
            exact bodyPost_ret (v := .tuple #[.agg #[.int .i64 0, .int .u64 0, .int .u64 0, .int .i64 0], .int .i64 1]) (by simp [results, Tryd.results28, go_sem, C0, C1, C2, C3, h6z]) rfl ⟨rfl, (((B6.setCell (by simp) _).setCell (by simp) _).setCell (by simp) _).setCell (by simp) _⟩
          | true =>
            go_wp2_with fail
            refine (hnum _).mono ?_
            rintro e w' ⟨rfl, hw'⟩
            obtain rfl : wc = w' := hw'.symm
            have b06 : Below W0.heap.size W0 (wc.setCell ⟨pb, 3, none⟩ (.int .i64 n)) := b0c.setCell (by show W0.heap.size ≤ pb; omega) _
            have f3 := pf 3
            have P0n : (wc.setCell ⟨pb, 3, none⟩ (.int .i64 n)).cell? ⟨pb, 0, none⟩ = some (.int .i64 f) := by rw [put_other (by simp)]; exact P0
            have P1n : (wc.setCell ⟨pb, 3, none⟩ (.int .i64 n)).cell? ⟨pb, 1, none⟩ = some (.int .u64 h) := by rw [put_other (by simp)]; exact P1
            have P2n : (wc.setCell ⟨pb, 3, none⟩ (.int .i64 n)).cell? ⟨pb, 2, none⟩ = some (.int .u64 l) := by rw [put_other (by simp)]; exact P2
            have P3n : (wc.setCell ⟨pb, 3, none⟩ (.int .i64 n)).cell? ⟨pb, 3, none⟩ = some (.int .i64 n) := put_same P3
            obtain ⟨WN, hWN⟩ : ∃ WN, wc.setCell ⟨pb, 3, none⟩ (.int .i64 n) = WN := ⟨_, rfl⟩
            rw [hWN] at b06 P0n P1n P2n P3n
            clear P0 P1 P2 hnum pf
            have P0 := P0n
            have P1 := P1n
            have P2 := P2n
            clear P0n P1n P2n
            have P3o := P3
            clear P3
            have P3 := P3n
            clear P3n
            go_upto_region 11 with (fail)
            try rw [hWN]
            clear hWN P3o f3 b0c
            have hr := hrp (n)
            have z06 := b06.size
            cases hv : Ad.rightPrefix ⟨f, h, l⟩ (n) with
            | false =>
              rw [hv] at hr
              obtain ⟨rfl, rfl, rfl, rfl, rfl⟩ := bad.out.2 (by have := HT2.out; rw [hv] at this; simpa using this)
              clear HT2 bad hv hrp
              go_wp2_with fail
              refine (hr _).mono ?_
              rintro e w6 ⟨rfl, b6⟩
              obtain ⟨C0, C1, C2, C3, RF, h6z, B6⟩ := fin.out _ (b06.trans (b6.mono z06))
              clear fin
              go_wp2
              exact bodyPost_ret (v := .tuple #[.agg #[.int .i64 0, .int .u64 0, .int .u64 0, .int .i64 0], .int .i64 1]) (by simp [results, Tryd.results28, go_sem, C0, C1, C2, C3, h6z]) rfl ⟨rfl, (((B6.setCell (by simp) _).setCell (by simp) _).setCell (by simp) _).setCell (by simp) _⟩
            | true =>
              rw [hv] at hr
              have e5 := HT2.out
              rw [hv] at e5
              simp only [if_true, and_true, Prod.mk.injEq, Ad.mk.injEq] at e5
              obtain ⟨⟨⟨rfl, rfl, rfl⟩, rfl⟩, rfl⟩ := e5
              clear HT2 bad hv hrp
              go_wp2_with fail
              refine (hr _).mono ?_
              rintro e w6 ⟨rfl, b6⟩
              obtain ⟨C0, C1, C2, C3, RF, h6z, B6⟩ := fin.out _ (b06.trans (b6.mono z06))
              have P0' := kept b6 P0; have P1' := kept b6 P1; have P2' := kept b6 P2; have P3' := kept b6 P3
              clear fin P0 P1 P2 P3
              go_wp2
              exact bodyPost_ret (v := .tuple #[.agg #[.int .i64 f, .int .u64 h, .int .u64 l, .int .i64 (n)], .int .i64 0]) (by simp [results, Tryd.results28, go_sem, C0, C1, C2, C3, h6z]) rfl ⟨rfl, (((B6.setCell (by simp) _).setCell (by simp) _).setCell (by simp) _).setCell (by simp) _⟩
        · have hl0 : ws.length = 1 := by omega
          have hq := h1P.out hl0
          rw [if_pos trivial, hNw.out] at hq
          have hfl := hfull.out
          have e5 := hq.symm.trans HT.out
          simp only [Prod.mk.injEq, Ad.mk.injEq] at e5
          obtain ⟨⟨⟨rfl, rfl, rfl⟩, rfl⟩, rfl⟩ := e5
          have hr := hrp N
          rw [hfl] at hr
          have i3 : ((ws.length : Int) == 2) = false := by simp; omega
          clear hq hfl HT h1P h2P c24 hl1 hl0 hrp bad hfull hNw hl2
          go_wp2_with fail
          refine (hr _).mono ?_
          rintro e w6 ⟨rfl, b6⟩
          obtain ⟨C0, C1, C2, C3, RF, h6z, B6⟩ := fin.out _ (b0c.trans (b6.mono zc))
          have P0' := kept b6 P0; have P1' := kept b6 P1; have P2' := kept b6 P2; have P3' := kept b6 P3
          clear fin P0 P1 P2 P3 pf
          go_wp2
          exact bodyPost_ret (v := .tuple #[.agg #[.int .i64 f, .int .u64 h, .int .u64 l, .int .i64 N], .int .i64 0]) (by simp [results, Tryd.results28, go_sem, C0, C1, C2, C3, h6z]) rfl ⟨rfl, (((B6.setCell (by simp) _).setCell (by simp) _).setCell (by simp) _).setCell (by simp) _⟩
  · obtain ⟨rfl, rfl, rfl, rfl, rfl⟩ := bad.out.2 ((hbadP.out (.inl he)).symm.trans HT.out)
    have e11 : pe = 1 := by omega
    subst e11
    obtain ⟨C0, C1, C2, C3, RF, h6z, B6⟩ := fin.out _ (b03.alloc z03 (.cells #[.int .i64 f, .int .u64 h, .int .u64 l] 24))
    clear HT bad fin hbadP h1P h2P c23 he
    go_wp2
    exact bodyPost_ret (v := .tuple #[.agg #[.int .i64 0, .int .u64 0, .int .u64 0, .int .i64 0], .int .i64 1]) (by simp [results, Tryd.results28, go_sem, C0, C1, C2, C3, h6z]) rfl ⟨rfl, (((B6.setCell (by simp) _).setCell (by simp) _).setCell (by simp) _).setCell (by simp) _⟩
end Go.Proofs.YtakajiedajfkjaaDoor
