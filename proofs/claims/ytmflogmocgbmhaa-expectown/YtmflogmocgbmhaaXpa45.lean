/- For every input the law ExpectOwn returns true and leaves its arguments as they were. -/
import Derived.Test.YtmflogmocgbmhaaXpa38
import Derived.Test.YtmflogmocgbmhaaRows
import Derived.WalkKit
import Derived.ProofKit
import Derived.OpenShut
import Derived.ShutString
import Derived.ChangeOld
import Derived.Below
import Derived.SizedLaws
namespace Go.Proofs.Ytmflogmocgbmhaa
open Go.RowKit
set_option linter.unusedVariables false
set_option linter.unusedSimpArgs false
set_option maxRecDepth 100000 in
set_option maxHeartbeats 16000000 in
theorem expectOwn_walk (la : Option Addr) (lc : Nat) (l : List Wt) (w : World) (hlc : l.length ≤ lc) (hcm : lc * 176 ≤ 140737488351232 ∧ (la = none → lc = 0)) (hrow : RowN 22 Wt.v (fun _ q => q.ok) w la l) :
    Calls Try.prog 9 #[.slice la l.length lc] w fun e w' => e = .returned (.bool true) ∧ Below w.heap.size w w' := by
  have HRow : Hid (RowN 22 Wt.v (fun _ q => q.ok) w la l) := hrow
  obtain ⟨N, hN⟩ : ∃ N, l.length = N := ⟨_, rfl⟩
  have HN : Hid (l.length = N) := hN
  have hNl : N ≤ 140737488355328 := by omega
  rw [hN]
  clear hN hrow hlc hcm
  have b := Below.refl w.heap.size w
  go_enter Try.func9, Try.ntmps9
  go_wp2_with fail
  refine Calls.mono (newX 256 256 (by decide) (by decide) _) ?_
  rintro e Wm1 ⟨tb, rfl, Xm1, gtb, bb⟩
  have bm1 := bel_tr b bb
  clear bb
  have gwb : w.heap.size ≤ tb := Nat.le_trans b.size gtb
  have gwm := gwb
  go_wp2_with fail
  refine Calls.mono (rnewY_xp 256 256 _ (by decide) (by decide)) ?_
  rintro e Wm2 ⟨rfl, bb⟩
  have Xm2 := Xm1.kept bb
  have bm2 := bel_tr bm1 bb
  clear bb
  clear Xm1 bm1
  obtain ⟨Wm3, hWm3⟩ : ∃ W, Wm2.alloc (.cells #[.int .i64 0, .int .i64 0, .int .i64 0, .slice none 0 0] 41) = W := ⟨_, rfl⟩
  have bm3 := bel_al bm2 hWm3
  have Xm3 := Xm2.al hWm3
  have Am3 := blk_nw hWm3
  have gA : w.heap.size ≤ Wm2.heap.size := bm2.size
  have nXA : tb ≠ Wm2.heap.size ∧ tb ≠ Wm2.heap.size := by have := Xm2.lt; omega
  obtain ⟨Wm4, hWm4⟩ : ∃ W, Wm3.setRow Wm2.heap.size #[.int .i64 256, .int .i64 256, .int .i64 0, .slice none 0 0] = W := ⟨_, rfl⟩
  have Am4 : Blk Wm4 Wm2.heap.size 41 #[.int .i64 256, .int .i64 256, .int .i64 0, .slice none 0 0] := hWm4 ▸ Am3.set #[.int .i64 256, .int .i64 256, .int .i64 0, .slice none 0 0]
  have Xm4 := hWm4 ▸ Xm3.other nXA #[.int .i64 256, .int .i64 256, .int .i64 0, .slice none 0 0]
  have bm4 := hWm4 ▸ below_setRow bm3 gA #[.int .i64 256, .int .i64 256, .int .i64 0, .slice none 0 0]
  go_wp2_with (refine wpList_store_row rfl _ _ _ rfl Wm2.heap.size #[.int .i64 256, .int .i64 256, .int .i64 0, .slice none 0 0] (by rfl) (by rfl) _ _ Am3 (by kernel_rfl) (by rfl) (by kernel_rfl) ?_; rw [hWm4])
  refine Calls.mono (alive_xp _) ?_
  rintro e Wm5 ⟨rfl, bb⟩
  have Xm5 := Xm4.kept bb
  have Am5 := Am4.kept bb
  have bm5 := bel_tr bm4 bb
  clear bb
  clear Xm4 Am4 bm4
  go_wp2_with fail
  obtain ⟨rb, hrb⟩ : ∃ g, Wm2.heap.size = g := ⟨_, rfl⟩
  rw [hrb] at Am5 nXA gA
  try rw [hrb]
  clear hrb
  have Dm5 : DocX Wm5 rb rb ⟨256, 256, 0, []⟩ := docx_new (by decide) (by decide) Am5
  have gdb : w.heap.size ≤ rb := gA
  have nXD : ((tb ≠ rb ∧ tb ≠ rb) ∧ (tb ≠ rb ∧ tb ≠ rb)) := by have := nXA; omega
  go_loopw [31] (fun i wr => ∃ (j : Nat) (s : Xt) (lb ld : Nat), j ≤ N ∧ i = .int .i64 j ∧ w.heap.size ≤ lb ∧ w.heap.size ≤ ld ∧ ((tb ≠ rb ∧ lb ≠ rb) ∧ (tb ≠ ld ∧ lb ≠ ld)) ∧ TabX wr tb lb s ∧ DocX wr rb ld s ∧ Below w.heap.size w wr) (fun i _ => N - (intOf i).toNat)
  case atStart => exact ⟨0, ⟨256, 256, 0, []⟩, tb, rb, Nat.zero_le _, rfl, gwb, gdb, nXD, Xm5, Dm5, bm5⟩
  case round =>
    obtain ⟨j, s, lb, ld, hj, rfl, gwm, gdm, nXD, Xr, Dr, br⟩ := hrel
    obtain ⟨Wr, rfl⟩ : ∃ W, W = wr := ⟨_, rfl⟩
    have HOK : Hid (XtOk s) := Xr.ok
    have HLN : s.L.length ≤ 1000000 := Xr.len
    have in0 : (0 : Int) ≤ (j : Int) := by omega
    by_cases hlt : j < N
    · have ik : (j : Int) < (N : Int) := by omega
      have ik' : decide ((j : Int) < (N : Int)) = true := by simpa using ik
      obtain ⟨f, hq⟩ : ∃ q, l[j]? = some q := ⟨_, List.getElem?_eq_getElem (by rw [HN.out]; exact hlt)⟩
      have hok : f.ok := HRow.out.each f (List.mem_of_getElem? hq)
      obtain ⟨p, off, rfl, hcells⟩ := HRow.out.cells j f hq
      have hca := hcells.below br
      clear hcells
      obtain ⟨Wm6, hWm6⟩ : ∃ W, Wr.alloc (.cells #[.int .i64 0, .int .i64 0, .int .i64 0, .int .u64 0, .int .u64 0, .int .i64 0, .int .u64 0, .int .u64 0, .int .i64 0, .int .i64 0, .int .i64 0, .int .i64 0, .int .i64 0, .int .u64 0, .int .u64 0, .int .i64 0, .int .u64 0, .int .u64 0, .int .i64 0, .int .i64 0, .int .i64 0, .int .i64 0] 28) = W := ⟨_, rfl⟩
      have bm6 := bel_al br hWm6
      have Xm6 := Xr.al hWm6
      have Dm6 := Dr.al hWm6
      have Am6 := blk_nw hWm6
      have gA : w.heap.size ≤ Wr.heap.size := br.size
      have nXA : tb ≠ Wr.heap.size ∧ lb ≠ Wr.heap.size := by have := Xr.lt; omega
      have nDA : rb ≠ Wr.heap.size ∧ ld ≠ Wr.heap.size := by have := Dr.lt; omega
      obtain ⟨Wm7, hWm7⟩ : ∃ W, Wm6.setRow Wr.heap.size f.v = W := ⟨_, rfl⟩
      have Am7 : Blk Wm7 Wr.heap.size 28 f.v := hWm7 ▸ Am6.set f.v
      have Xm7 := hWm7 ▸ Xm6.other nXA f.v
      have Dm7 := hWm7 ▸ Dm6.other nDA f.v
      have bm7 := hWm7 ▸ below_setRow bm6 gA f.v
      go_wp2_with (first | (refine wpList_load_at_w (by rfl) _ _ rfl p (off + j * 22) (by rfl) _ hca Try.underlying28 (by kernel_rfl) ?_) | (refine wpList_store_row rfl _ _ _ rfl Wr.heap.size f.v (by rfl) (by rfl) _ _ Am6 (by kernel_rfl) (by rfl) (by kernel_rfl) ?_; rw [hWm7]) | (refine wpList_load_blk_w (by rfl) _ _ rfl Wr.heap.size (by rfl) _ Am7 Try.underlying28 (by kernel_rfl) ?_))
      refine Calls.mono (addX tb lb s f _ Xm7 (by first | assumption | exact hok)) ?_
      rintro e Wm8 ⟨lb8, rfl, Xm8, hlm8, bb⟩
      have gwm0 := gwm
      have Dm8 := Dm7.but bb (by have := nXD; omega) (by have := nXD; omega)
      have Am8 := Am7.but bb (by have := nXA; omega)
      have nXD : ((tb ≠ rb ∧ lb8 ≠ rb) ∧ (tb ≠ ld ∧ lb8 ≠ ld)) := by have h9 := nXD; have h8 := Dm7.lt; rcases hlm8 with h | h <;> omega
      have nXA : tb ≠ Wr.heap.size ∧ lb8 ≠ Wr.heap.size := by have h8 := Am7.lt; have h9 := nXA; rcases hlm8 with h | h <;> omega
      have gwm : w.heap.size ≤ lb8 := by have h9 := bm7.size; have h8 := gwm; rcases hlm8 with h | h <;> omega
      have bm8 := bel_but bm7 bb gwb gwm0
      clear bb
      clear Xm7 Dm7 Am7 bm7
      go_wp2_with (refine wpList_load_blk_w (by rfl) _ _ rfl Wr.heap.size (by rfl) _ Am8 Try.underlying28 (by kernel_rfl) ?_)
      refine Calls.mono (raddX rb ld s f _ Dm8 (by first | assumption | exact hok)) ?_
      rintro e Wm9 ⟨ld9, rfl, Dm9, hdm9, bb⟩
      have Xm9 := Xm8.but bb (by have := nXD; omega) (by have := nXD; omega)
      have Am9 := Am8.but bb (by have := nDA; omega)
      have nXD : ((tb ≠ rb ∧ lb8 ≠ rb) ∧ (tb ≠ ld9 ∧ lb8 ≠ ld9)) := by have h9 := nXD; have h8 := Xm8.lt; rcases hdm9 with h | h <;> omega
      have nDA : rb ≠ Wr.heap.size ∧ ld9 ≠ Wr.heap.size := by have h8 := Am8.lt; have h9 := nDA; rcases hdm9 with h | h <;> omega
      have gdm : w.heap.size ≤ ld9 := by have h9 := bm8.size; have h8 := gdm; rcases hdm9 with h | h <;> omega
      have bm9 := bel_but1 bm8 bb gdb
      clear bb
      clear Xm8 Dm8 Am8 bm8
      go_wp2_with fail
      exact ⟨⟨j + 1, (Xt.add s f).1, lb8, ld9, by omega, by go_num, gwm, gdm, nXD, Xm9, Dm9, bm9⟩, by simp [intOf]; omega⟩

    · have ik : ¬ (j : Int) < (N : Int) := by omega
      have ik' : decide ((j : Int) < (N : Int)) = false := by simpa using ik
      go_wp2_with fail
      refine Calls.mono (allX tb lb s _ Xr) ?_
      rintro e Wm10 ⟨aa, ca, rfl, OAm10, bb⟩
      obtain ⟨Wp, hp, HXp, HDp⟩ : ∃ W, W = Wr ∧ Hid (TabX W tb lb s) ∧ Hid (DocX W rb ld s) := ⟨_, rfl, Xr, Dr⟩
      have Gm10 : But (fun _ => False) Wp Wm10 := by rw [hp]; exact But.of_below bb _
      have Om10 : OwnW Wm10 Wp.heap.size aa ca s.L := by rw [hp]; exact OAm10
      have hwp : w.heap.size ≤ Wp.heap.size := by rw [hp]; exact br.size
      have bm10 := bel_tr br bb
      clear bb hp OAm10
      clear Xr Dr br
      go_wp2_with fail
      obtain ⟨M, hM⟩ : ∃ M, s.L.length = M := ⟨_, rfl⟩
      have HM : Hid (s.L.length = M) := hM
      have hM0 : M ≤ 1000000 := by rw [← hM]; exact HLN
      rw [hM]
      clear hM
      go_loopw [45] (fun i wr => ∃ (k : Nat) (L2 : List Wt), k ≤ M ∧ i = .int .i64 k ∧ Hid (L2.length = M) ∧ OwnW wr Wp.heap.size aa ca L2 ∧ But (fun _ => False) Wp wr ∧ Below w.heap.size w wr) (fun i _ => M - (intOf i).toNat)
      case atStart => exact ⟨0, s.L, Nat.zero_le _, rfl, HM, Om10, Gm10, bm10⟩
      case round =>
        obtain ⟨k, L2, hk, rfl, HL2, Ov, Gv, bv⟩ := hrel
        obtain ⟨Wv, rfl⟩ : ∃ W, W = wr := ⟨_, rfl⟩
        have in0k : (0 : Int) ≤ (k : Int) := by omega
        by_cases hltk : k < M
        · have ikk : (k : Int) < (M : Int) := by omega
          have ikk' : decide ((k : Int) < (M : Int)) = true := by simpa using ikk
          have hkL : k < L2.length := by rw [HL2.out]; exact hltk
          obtain ⟨ga, rfl⟩ : ∃ ga, aa = some ⟨ga, 0, none⟩ := Ov.some_of (by omega)
          obtain ⟨cr8, hb8, hsz8, hB8, O8q⟩ := Ov.put k (⟨⟨0, 0, ⟨0, 0, 0⟩, ⟨0, 0, 0⟩, 0, 0⟩, ⟨0, 0, ⟨0, 0, 0⟩, ⟨0, 0, 0⟩, 0, 0⟩, 0, 0⟩ : Wt) hkL
          have hsz8' : k * 22 + (⟨⟨0, 0, ⟨0, 0, 0⟩, ⟨0, 0, 0⟩, 0, 0⟩, ⟨0, 0, ⟨0, 0, 0⟩, ⟨0, 0, 0⟩, 0, 0⟩, 0, 0⟩ : Wt).v.size ≤ cr8.size := hsz8
          obtain ⟨Wy11, hWy11⟩ : ∃ W, Wv.setRow ga (setMany cr8 (k * 22) (⟨⟨0, 0, ⟨0, 0, 0⟩, ⟨0, 0, 0⟩, 0, 0⟩, ⟨0, 0, ⟨0, 0, 0⟩, ⟨0, 0, 0⟩, 0, 0⟩, 0, 0⟩ : Wt).v.toList) = W := ⟨_, rfl⟩
          have Oy11 : OwnW Wy11 Wp.heap.size (some ⟨ga, 0, none⟩) ca (L2.set k (⟨⟨0, 0, ⟨0, 0, 0⟩, ⟨0, 0, 0⟩, 0, 0⟩, ⟨0, 0, ⟨0, 0, 0⟩, ⟨0, 0, 0⟩, 0, 0⟩, 0, 0⟩ : Wt)) := hWy11 ▸ O8q
          have Gy11 : But (fun _ => False) Wp Wy11 := hWy11 ▸ Gv.setRow ga (.inr hB8) (setMany cr8 (k * 22) (⟨⟨0, 0, ⟨0, 0, 0⟩, ⟨0, 0, 0⟩, 0, 0⟩, ⟨0, 0, ⟨0, 0, 0⟩, ⟨0, 0, 0⟩, 0, 0⟩, 0, 0⟩ : Wt).v.toList)
          have by11 := hWy11 ▸ below_setRow bv (Nat.le_trans hwp hB8) (setMany cr8 (k * 22) (⟨⟨0, 0, ⟨0, 0, 0⟩, ⟨0, 0, 0⟩, 0, 0⟩, ⟨0, 0, ⟨0, 0, 0⟩, ⟨0, 0, 0⟩, 0, 0⟩, 0, 0⟩ : Wt).v.toList)
          go_wp2_with (refine wpList_store_off rfl _ _ _ rfl ga (k * 22) _ (⟨⟨0, 0, ⟨0, 0, 0⟩, ⟨0, 0, 0⟩, 0, 0⟩, ⟨0, 0, ⟨0, 0, 0⟩, ⟨0, 0, 0⟩, 0, 0⟩, 0, 0⟩ : Wt).v cr8 _ (by rfl) (by rfl) hb8 (by kernel_rfl) hsz8' (by kernel_rfl) rfl ?_; rw [hWy11])
          exact ⟨⟨k + 1, L2.set k (⟨⟨0, 0, ⟨0, 0, 0⟩, ⟨0, 0, 0⟩, 0, 0⟩, ⟨0, 0, ⟨0, 0, 0⟩, ⟨0, 0, 0⟩, 0, 0⟩, 0, 0⟩ : Wt), by omega, by go_num, (by rw [List.length_set]; exact HL2.out), Oy11, Gy11, by11⟩, by simp [intOf]; omega⟩

        · have ikk : ¬ (k : Int) < (M : Int) := by omega
          have ikk' : decide ((k : Int) < (M : Int)) = false := by simpa using ikk
          have hLM : L2.length = M := HL2
          obtain ⟨Wm12, hWm12⟩ : ∃ W, Wv.alloc (.cells (Wt.v ⟨⟨0, 0, ⟨0, 0, 0⟩, ⟨0, 0, 0⟩, 0, 0⟩, ⟨0, 0, ⟨0, 0, 0⟩, ⟨0, 0, 0⟩, 0, 0⟩, 0, 0⟩) 28) = W := ⟨_, rfl⟩
          have bm12 := bel_al bv hWm12
          have Om12 := Ov.al hWm12
          have Gm12 := Gv.al hWm12
          have Am12 := blk_nw hWm12
          have gA : w.heap.size ≤ Wv.heap.size := bv.size
          have nOA : ∀ y : Addr, aa = some y → y.block ≠ Wv.heap.size := fun y hy => by have := Ov.lt_size y hy; omega
          have nGA : (fun _ => False) Wv.heap.size ∨ Wp.heap.size ≤ Wv.heap.size := .inr Gv.size
          go_wp2_with (refine wpList_rnWs _ rfl _ _ rfl Wp.heap.size aa ca L2 _ _ (by rw [hLM]) (by rfl) Om12 (some ⟨Wv.heap.size, 0, none⟩) 1 [(⟨⟨0, 0, ⟨0, 0, 0⟩, ⟨0, 0, 0⟩, 0, 0⟩, ⟨0, 0, ⟨0, 0, 0⟩, ⟨0, 0, 0⟩, 0, 0⟩, 0, 0⟩ : Wt)] rfl (by rfl) (row_oneW Am12) (by simp; omega) Gm12.size ?_; intro a7 c7 Wa13 Oa13 Hg9; have bg : But (fun k => aa.map (·.block) = some k) Wm12 Wa13 := (But.refl _ _).grown Hg9 (fun n hn => .inl hn); have Ga13 : But (fun _ => False) Wp Wa13 := Gm12.trans bg (fun n hn e => absurd e (map_geW Om12.lt hn)); have ba13 : Below w.heap.size w Wa13 := bm12.trans (bg.to_below bm12.size (fun i hi h => absurd h (map_geW Om12.lt (Nat.lt_of_lt_of_le hi hwp)))); have Xa13 : TabX Wa13 tb lb s := HXp.out.but Ga13 (fun h => h) (fun h => h); have Da13 : DocX Wa13 rb ld s := HDp.out.but Ga13 (fun h => h) (fun h => h); obtain ⟨a, c, DO, hdl⟩ := Da13.ex; have Ta13 := DO.tab; have Ea13 := DO.row; have hl1 : s.L.length ≤ 1000000 := HLN; have hwok := way_ok 1 2; have hwr : (wayW 1 2).right = true := by decide)
          obtain ⟨Wdq14, hWdq14⟩ : ∃ W, Wa13.drew = W := ⟨_, rfl⟩
          have Xdq14 := hWdq14 ▸ Xa13.drew
          have Tdq14 := hWdq14 ▸ Ta13.drew
          have Edq14 := hWdq14 ▸ Ea13.drew
          have bdq14 := hWdq14 ▸ ba13.drew
          refine wp_region_noPanic ?_
          refine wp_region_held_drew (S := fun w' => TabX w' tb lb s ∧ Blk w' rb 41 #[.int .i64 s.most, .int .i64 s.quota, .int .i64 s.now, .slice a s.L.length c] ∧ RowE w' a c s.L) (by kernel_rfl) (by rw [hWdq14]; exact ⟨Xdq14, Tdq14, Edq14⟩) (fun hHeld => ?_)
          rw [hWdq14] at hHeld ⊢
          refine qtk (i := 0) (oi := { dst := some 57, op := Op.move (.tmp 3), type := 35, pos := "law.go:204", after := #[], guard := none }) (v := (.pointer (some ⟨tb, 0, none⟩))) hHeld ?_ ?_
          · intro w9 hSw
            try dsimp only at hSw
            go_simp
          try simp only [qpu]
          refine qtk (i := 2) (oi := { dst := some 59, op := Op.fieldAddr 41 (.tmp 5) 3, type := 0, pos := "law.go:204", after := #[], guard := none }) (v := (.pointer (some ⟨rb, 3, none⟩))) hHeld ?_ ?_
          · intro w9 hSw
            try dsimp only at hSw
            go_simp
          try simp only [qpu]
          refine qtk (i := 3) (oi := { dst := some 60, op := Op.load 39 (.tmp 59), type := 39, pos := "law.go:204", after := #[{ on := 2, ground := Ground.data }], guard := none }) (v := (.slice a s.L.length c)) hHeld ?_ ?_
          · intro w9 hSw
            try dsimp only at hSw
            have hcc := hSw.2.1.cell 3 (.slice a s.L.length c) rfl
            go_simp
          try simp only [qpu]
          refine wpAnyH_ready (rs := [1]) (by kernel_rfl) (by simp) ?_
          refine AllReadyH.cons (o := { dst := some 58, op := Op.call { callee := Callee.value (.func 19), args := #[.tmp 57], argTypes := #[35] }, type := 39, pos := "law.go:204", after := #[{ on := 0, ground := Ground.data }], guard := none }) rfl (fun K hK => ?_) AllReadyH.nil
          go_simp
          refine Calls.mono (allX tb lb s _ Xdq14) ?_
          rintro e Wx15 ⟨aa, ca, rfl, OAx15, bb⟩
          have Xx15 := Xdq14.kept bb
          have Tx15 := Tdq14.kept bb
          have Ex15 := Edq14.kept bb
          have bx15 := bel_tr bdq14 bb
          clear bb
          have HRW : Hid (RowW Wx15 aa s.L) := OAx15.row (fun _ _ => trivial)
          have Qx15 : But (fun _ => False) Wx15 Wx15 := But.refl _ _
          clear OAx15
          refine hK.out _ _ (by exact ⟨Xx15, Tx15, Ex15⟩) (fun hHeld => ?_)
          clear hK K
          try simp only [qpu]
          refine wpAnyH_ready (rs := [4]) (by kernel_rfl) (by simp) ?_
          refine AllReadyH.cons (o := { dst := some 61, op := Op.call { callee := Callee.value (.func 18), args := #[.tmp 58, .tmp 60], argTypes := #[39, 39] }, type := 4, pos := "law.go:204", after := #[{ on := 1, ground := Ground.data }, { on := 3, ground := Ground.data }, { on := 1, ground := Ground.chain }], guard := none }) rfl (fun K hK => ?_) AllReadyH.nil
          go_simp
          refine Calls.mono (same_xp _ _ _ _ s.L _ (HRW.out.low (Qx15.to_below (Nat.le_refl _) (fun _ _ x => x))) Ex15.row hl1) ?_
          rintro e Wx16 ⟨rfl, bb⟩
          have Xx16 := Xx15.kept bb
          have Tx16 := Tx15.kept bb
          have Ex16 := Ex15.kept bb
          have Qx16 := Qx15.kept bb
          have bx16 := bel_tr bx15 bb
          clear bb
          refine hK.out _ _ (by exact ⟨Xx16, Tx16, Ex16⟩) (fun hHeld => ?_)
          clear hK K
          try simp only [qpu]
          refine qtk (i := 5) (oi := { dst := some 62, op := Op.move (.tmp 61), type := 4, pos := "law.go:204", after := #[{ on := 4, ground := Ground.data }, { on := 4, ground := Ground.chain }], guard := none }) (v := (.bool true)) hHeld ?_ ?_
          · intro w9 hSw
            try dsimp only at hSw
            go_simp
          try simp only [qpu]
          refine wpAnyH_ready (rs := [6]) (by kernel_rfl) (by simp) ?_
          refine AllReadyH.cons (o := { dst := some 63, op := Op.call { callee := Callee.value (.func 26), args := #[.const (.int .i64 1), .const (.int .i64 2)], argTypes := #[3, 3] }, type := 26, pos := "law.go:204", after := #[{ on := 5, ground := Ground.chain }, { on := 5, ground := Ground.guard }], guard := some (5, true) }) rfl (fun K hK => ?_) AllReadyH.nil
          go_simp
          refine Calls.mono (way_xp 1 2 _) ?_
          rintro e Wx17 ⟨rfl, bb⟩
          have Xx17 := Xx16.kept bb
          have Tx17 := Tx16.kept bb
          have Ex17 := Ex16.kept bb
          have Qx17 := Qx16.kept bb
          have bx17 := bel_tr bx16 bb
          clear bb
          refine hK.out _ _ (by exact ⟨Xx17, Tx17, Ex17⟩) (fun hHeld => ?_)
          clear hK K
          try simp only [qpu]
          refine wpAnyH_ready (rs := [7]) (by kernel_rfl) (by simp) ?_
          refine AllReadyH.cons (o := { dst := some 64, op := Op.call { callee := Callee.value (.func 29), args := #[.tmp 63], argTypes := #[26] }, type := 4, pos := "law.go:204", after := #[{ on := 6, ground := Ground.data }, { on := 6, ground := Ground.chain }, { on := 5, ground := Ground.guard }], guard := some (5, true) }) rfl (fun K hK => ?_) AllReadyH.nil
          go_simp
          refine Calls.mono (rright_t (wayW 1 2) _ (by first | assumption | exact Wy.any_ok (by assumption) | exact Wy.mk_ok (by assumption) _)) ?_
          rintro e Wx18 ⟨rfl, bb⟩
          have Xx18 := Xx17.kept bb
          have Tx18 := Tx17.kept bb
          have Ex18 := Ex17.kept bb
          have Qx18 := Qx17.kept bb
          have bx18 := bel_tr bx17 bb
          clear bb
          refine hK.out _ _ (by exact ⟨Xx18, Tx18, Ex18⟩) (fun hHeld => ?_)
          clear hK K
          try simp only [qpu]
          refine qtk (i := 8) (oi := { dst := some 65, op := Op.pick (.tmp 62) (.tmp 64) (.const (.bool false)), type := 4, pos := "law.go:204", after := #[{ on := 5, ground := Ground.data }, { on := 7, ground := Ground.data }], guard := none }) (v := (.bool true)) hHeld ?_ ?_
          · intro w9 hSw
            try dsimp only at hSw
            go_simp
          try simp only [qpu]
          refine qtk (i := 9) (oi := { dst := some 2, op := Op.assign (.tmp 65), type := 4, pos := "law.go:204", after := #[{ on := 8, ground := Ground.data }, { on := 7, ground := Ground.chain }, { on := 0, ground := Ground.phase }, { on := 1, ground := Ground.phase }, { on := 2, ground := Ground.phase }, { on := 3, ground := Ground.phase }, { on := 4, ground := Ground.phase }, { on := 5, ground := Ground.phase }, { on := 6, ground := Ground.phase }, { on := 7, ground := Ground.phase }, { on := 8, ground := Ground.phase }], guard := none }) (v := (.bool true)) hHeld ?_ ?_
          · intro w9 hSw
            try dsimp only at hSw
            go_simp
          try simp only [qpu]
          refine wpAnyH_done (by kernel_rfl) ?_ _
          refine NoPanic.normal ?_
          go_wp2_with fail
          go_ret
          exact ⟨rfl, bx18⟩
end Go.Proofs.Ytmflogmocgbmhaa
namespace Go.Proofs.Ytmflogmocgbmhaa.expectOwn
open Go.ChangeShapes Go.WideShapes Go.ChangeAt Go.RowKit
open Go.ChangeMaps (open_string shut_string)
set_option linter.unusedVariables false
theorem own : ownKnob Try.prog.godebug = none := by kernel_rfl
theorem laidOut : laidOutB Try.prog = true := by kernel_rfl
set_option maxRecDepth 100000 in
theorem lifted (os : Os) (started : os.Started) (H : Type) (enc : TypeId × Value → H) :
    ReturnsInHanded {} Try.checked os 9 .any (Rows.expectOwnSpec.pre6 enc Try.prog Try.f9 Rows.expectOwnRow.domain false) (Rows.expectOwnSpec.post enc Try.prog Try.f9 false true false false) := by
  refine returnsInHanded_of_change_sized (C := Try.checked) own started (by kernel_rfl) Try.func9
    (ChangeSpec.witness6 (enc := enc) (C := Try.checked) false ⟨#[], #[.slice none 0 0], []⟩ 8 (by kernel_rfl) (by kernel_rfl) (by kernel_rfl) (by kernel_rfl)) ?_
  intro W base args ds gs before hval0 hW hcnd hsz0 _
  have hval : ∀ (j : Nat) t v, Try.f9.params[j]? = some t → args[j]? = some v → Value.okWide Try.prog W .any base t v := hval0
  have hW' := hW
  obtain ⟨p, q, hA0, hV, rfl, hfz, hnd⟩ := hW
  have hA : DataW.TrodAll enc Try.prog W 0 (fun _ => true) true Try.f9.params.toList args.toList ds p := hA0
  have hsz : (DataW.weightsEach Try.prog (Try.f9.params.toList ++ Rows.expectOwnSpec.plain.varTypes Try.prog) (ds ++ gs)).all (· ≤ reachBytes) = true := hsz0
  rw [Try.params9] at hA hval hsz
  obtain ⟨v0, vs0, d0, ds0, p0, q0, hargs, rfl, rfl, h0, r0⟩ := trodAll_cons hA
  obtain ⟨rfl, rfl, rfl⟩ := trodAll_nil r0
  obtain rfl : args = #[v0] := by cases args; simp_all
  obtain ⟨rfl, rfl⟩ := trodVars_none hV
  have lt0 : ∀ x ∈ p0, x.block < W.heap.size := by obtain ⟨m, hm⟩ := h0; exact DataW.trod_lt m _ _ _ hm
  have s0 : ∀ n ∈ d0.weights Try.prog 39, n ≤ reachBytes := fun n hn => by simpa using List.all_eq_true.1 hsz n (DataW.weights_mem_each (j := 0) (t := 39) rfl rfl n hn)
  obtain ⟨a0, c0, l0, rfl, lc0, cm0, w0⟩ := open_wants (hval 0 39 v0 rfl rfl) h0 s0
  clear hA0 hval0 hsz0
  refine (expectOwn_walk a0 c0 l0 W lc0 cm0 w0).mono fun e W' ⟨he, bel⟩ => ?_
  subst he
  exact ⟨_, rfl, _, _, _, [], _, [], hW', trodAll_mk1 (shut_bool Try.underlying4 _), (trodAll_cons_mk (Below.trod laidOut (by kernel_rfl) (of_decide_eq_true (by kernel_rfl)) h0 bel lt0) trodAll_mk0), rfl, bel.frame _, fun h => by cases h⟩
theorem over : Rows.expectOwnRow.holds Try.pinned (OpenSpec.ofChange Rows.expectOwnSpec) :=
  OpenClaim.holds_of_wide 9 Try.f9 rfl rfl rfl rfl rfl rfl rfl ⟨rfl, rfl, rfl, rfl, rfl⟩ rfl rfl rfl rfl rfl (by kernel_rfl) Try.func9 (by kernel_rfl)
    (of_decide_eq_true (by kernel_rfl)) (by unfold Func.isWrapper; first | (rw [if_pos (by decide +kernel)]; kernel_rfl) | (rw [if_neg (by decide +kernel)]; exact ⟨rfl, rfl⟩))
    (fun os started H enc _ => lifted os started H enc)
end Go.Proofs.Ytmflogmocgbmhaa.expectOwn
namespace Go.Proofs.Ytmflogmocgbmhaa
theorem expectOwn_holds : Rows.ExpectOwnSaid := expectOwn.over
end Go.Proofs.Ytmflogmocgbmhaa
