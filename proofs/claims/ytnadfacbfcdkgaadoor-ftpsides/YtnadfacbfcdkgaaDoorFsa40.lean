/- For every input the law FtpSides returns true and leaves its arguments as they were; the tables of Go's library that its row lists hold what they are listed with (the card ties them). -/
import Derived.Test.YtnadfacbfcdkgaaDoorFsa22
import Derived.Test.YtnadfacbfcdkgaaDoorCards
import Derived.Test.YtnadfacbfcdkgaaDoorTie
import Derived.WalkKit
import Derived.ProofKit
import Derived.OpenShut
import Derived.ChangeOld
import Derived.Below
import Derived.Carry
import Derived.SizedLaws
import Derived.Deep.DeepHandedRow
import Derived.SevenTiedAt
import Derived.ChangeMaps5
namespace Go.Proofs.YtnadfacbfcdkgaaDoor
open Go.RowKit
set_option linter.unusedVariables false
set_option linter.unusedSimpArgs false
theorem askT_some {o : Option As} (h : (askT o).2 = true) : o = some (askT o).1 := by
  cases o with
  | none => cases h
  | some q => rfl
set_option maxRecDepth 100000 in
set_option maxHeartbeats 4000000 in
theorem ftpSides_list (fam : Int) (l : List UInt8) (m : Int) (w : World) (M : Mx m w) :
    Calls Tryd.prog 8 #[.int .i64 fam, .string ⟨l.toArray⟩] w fun e w' => e = .returned (.bool true) ∧ Below w.heap.size w w' := by
  obtain ⟨⟨P0, k0⟩, hP0⟩ : ∃ p, askT (plF fam 0 l) = p := ⟨_, rfl⟩
  have K0 : Hid (∀ W, Mx m W → Calls Tryd.prog 14 #[.int .i64 fam, .int .i64 0, .string ⟨List.toArray l⟩] W fun e w' => e = .returned (.tuple #[.agg P0.v, .bool k0]) ∧ Below W.heap.size W w') := fun W hW => by have h := place_any fam 0 l m W hW; rw [hP0] at h; exact h
  obtain ⟨⟨P1, k1⟩, hP1⟩ : ∃ p, askT (plF fam 1 l) = p := ⟨_, rfl⟩
  have K1 : Hid (∀ W, Mx m W → Calls Tryd.prog 14 #[.int .i64 fam, .int .i64 1, .string ⟨List.toArray l⟩] W fun e w' => e = .returned (.tuple #[.agg P1.v, .bool k1]) ∧ Below W.heap.size W w') := fun W hW => by have h := place_any fam 1 l m W hW; rw [hP1] at h; exact h
  have hF0 : k0 = true → 1 ≤ P0.po ∧ P0.po ≤ 65535 ∧ P0.a.fam = fam ∧ ¬ l.head? = some 50 := fun h => by have q := pl_0 (askT_some (o := plF fam 0 l) (by rw [hP0]; exact h)); rw [hP0] at q; exact q
  have hF1 : k1 = true → 1 ≤ P1.po ∧ P1.po ≤ 65535 ∧ l.head? = some 50 := fun h => by have q := pl_1 (askT_some (o := plF fam 1 l) (by rw [hP1]; exact h)); rw [hP1] at q; exact q
  clear hP0 hP1
  obtain ⟨R, hR⟩ : ∃ R, true = R := ⟨_, rfl⟩
  have HR : Hid (true = R) := hR
  try rw [hR]
  clear hR
  have b := Below.refl w.heap.size w
  go_enter Tryd.func8, Tryd.ntmps8
  go_wp2_with fail
  refine Calls.mono (K0.out _ M) ?_
  rintro e Wm1 ⟨rfl, bb⟩
  have Mm1 := M.kept bb
  have bm1 := bel_tr b bb
  clear bb
  obtain ⟨Wm2, hWm2⟩ : ∃ W, Wm1.alloc (.cells #[.int .i64 0, .int .i64 0, .int .u64 0, .int .u64 0, .int .i64 0] 32) = W := ⟨_, rfl⟩
  have bm2 := bel_al bm1 hWm2
  have Mm2 := Mm1.al hWm2
  have Am2 := blk_nw hWm2
  have gA : w.heap.size ≤ Wm1.heap.size := bm1.size
  have nMA : 0 ≠ Wm1.heap.size := fun e => by have := Mm1.lt; omega
  obtain ⟨Wm3, hWm3⟩ : ∃ W, Wm2.setRow Wm1.heap.size P0.v = W := ⟨_, rfl⟩
  have Am3 : Blk Wm3 Wm1.heap.size 32 P0.v := hWm3 ▸ Am2.set P0.v
  have Mm3 := hWm3 ▸ Mm2.other nMA P0.v
  have bm3 := hWm3 ▸ below_setRow bm2 gA P0.v
  rename_i Kr hkr Kc hkc
  have HK : Hid _ := hkr
  clear hkr
  go_wp2_with (guard_target =~ wpList _ _ _ ({ dst := none, op := Op.store _ _ _, type := _, pos := _, after := _, guard := none } :: _) _ _; refine wpList_store_row rfl _ _ _ rfl Wm1.heap.size P0.v (by rfl) (by rfl) _ _ Am2 (by kernel_rfl) (by rfl) (by kernel_rfl) ?_; rw [hWm3])
  refine HK.out _ _ ?_
  clear HK
  go_wp2_with fail
  refine Calls.mono (K1.out _ Mm3) ?_
  rintro e Wm4 ⟨rfl, bb⟩
  have Mm4 := Mm3.kept bb
  have Am4 := Am3.kept bb
  have bm4 := bel_tr bm3 bb
  clear bb
  clear Mm3 Am3 bm3
  cases hq7 : k0 with
  | false =>
    cases hq10 : k1 with
    | false =>
      obtain ⟨Wm11, hWm11⟩ : ∃ W, Wm4.alloc (.cells #[.int .i64 0, .int .i64 0, .int .u64 0, .int .u64 0, .int .i64 0] 32) = W := ⟨_, rfl⟩
      have bm11 := bel_al bm4 hWm11
      have Mm11 := Mm4.al hWm11
      have Am11 := Am4.al hWm11
      have Bm11 := blk_nw hWm11
      have gB : w.heap.size ≤ Wm4.heap.size := bm4.size
      have nMB : 0 ≠ Wm4.heap.size := fun e => by have := Mm4.lt; omega
      have nAB : Wm1.heap.size ≠ Wm4.heap.size := by have := Am4.lt; omega
      have nBA : Wm4.heap.size ≠ Wm1.heap.size := fun e => nAB e.symm
      obtain ⟨Wm12, hWm12⟩ : ∃ W, Wm11.setRow Wm4.heap.size P1.v = W := ⟨_, rfl⟩
      have Bm12 : Blk Wm12 Wm4.heap.size 32 P1.v := hWm12 ▸ Bm11.set P1.v
      have Mm12 := hWm12 ▸ Mm11.other nMB P1.v
      have Am12 := hWm12 ▸ Am11.other nAB P1.v
      have bm12 := hWm12 ▸ below_setRow bm11 gB P1.v
      rename_i Kr hkr Kc hkc
      have HK : Hid _ := hkr
      clear hkr
      go_wp2_with (guard_target =~ wpList _ _ _ ({ dst := none, op := Op.store _ _ _, type := _, pos := _, after := _, guard := none } :: _) _ _; refine wpList_store_row rfl _ _ _ rfl Wm4.heap.size P1.v (by rfl) (by rfl) _ _ Bm11 (by kernel_rfl) (by rfl) (by kernel_rfl) ?_; rw [hWm12])
      refine HK.out _ _ ?_
      clear HK
      go_wp2_with fail
      refine Calls.mono (alive_ft m _ Mm12) ?_
      rintro e Wm13 ⟨rfl, bb⟩
      have Mm13 := Mm12.kept bb
      have Am13 := Am12.kept bb
      have Bm13 := Bm12.kept bb
      have bm13 := bel_tr bm12 bb
      clear bb
      clear Mm12 Am12 Bm12 bm12
      go_wp2_with fail
      go_ret
      exact ⟨retB_fw (by rw [← HR.out]), bm13⟩

    | true =>
      cases hq17 : (decide (0 < P1.po)) with
      | false =>
        obtain ⟨Wm18, hWm18⟩ : ∃ W, Wm4.alloc (.cells #[.int .i64 0, .int .i64 0, .int .u64 0, .int .u64 0, .int .i64 0] 32) = W := ⟨_, rfl⟩
        have bm18 := bel_al bm4 hWm18
        have Mm18 := Mm4.al hWm18
        have Am18 := Am4.al hWm18
        have Bm18 := blk_nw hWm18
        have gB : w.heap.size ≤ Wm4.heap.size := bm4.size
        have nMB : 0 ≠ Wm4.heap.size := fun e => by have := Mm4.lt; omega
        have nAB : Wm1.heap.size ≠ Wm4.heap.size := by have := Am4.lt; omega
        have nBA : Wm4.heap.size ≠ Wm1.heap.size := fun e => nAB e.symm
        obtain ⟨Wm19, hWm19⟩ : ∃ W, Wm18.setRow Wm4.heap.size P1.v = W := ⟨_, rfl⟩
        have Bm19 : Blk Wm19 Wm4.heap.size 32 P1.v := hWm19 ▸ Bm18.set P1.v
        have Mm19 := hWm19 ▸ Mm18.other nMB P1.v
        have Am19 := hWm19 ▸ Am18.other nAB P1.v
        have bm19 := hWm19 ▸ below_setRow bm18 gB P1.v
        rename_i Kr hkr Kc hkc
        have HK : Hid _ := hkr
        clear hkr
        go_wp2_with (guard_target =~ wpList _ _ _ ({ dst := none, op := Op.store _ _ _, type := _, pos := _, after := _, guard := none } :: _) _ _; refine wpList_store_row rfl _ _ _ rfl Wm4.heap.size P1.v (by rfl) (by rfl) _ _ Bm18 (by kernel_rfl) (by rfl) (by kernel_rfl) ?_; rw [hWm19])
        refine HK.out _ _ ?_
        clear HK
        have c20 := Bm19.cell 4 (.int .i64 P1.po) rfl
        go_wp2_with fail
        exfalso
        have q1 := hF1 hq10
        have p2 := (of_decide_eq_false hq17)
        omega

      | true =>
        cases hq24 : (decide (P1.po < 65536)) with
        | false =>
          obtain ⟨Wm25, hWm25⟩ : ∃ W, Wm4.alloc (.cells #[.int .i64 0, .int .i64 0, .int .u64 0, .int .u64 0, .int .i64 0] 32) = W := ⟨_, rfl⟩
          have bm25 := bel_al bm4 hWm25
          have Mm25 := Mm4.al hWm25
          have Am25 := Am4.al hWm25
          have Bm25 := blk_nw hWm25
          have gB : w.heap.size ≤ Wm4.heap.size := bm4.size
          have nMB : 0 ≠ Wm4.heap.size := fun e => by have := Mm4.lt; omega
          have nAB : Wm1.heap.size ≠ Wm4.heap.size := by have := Am4.lt; omega
          have nBA : Wm4.heap.size ≠ Wm1.heap.size := fun e => nAB e.symm
          obtain ⟨Wm26, hWm26⟩ : ∃ W, Wm25.setRow Wm4.heap.size P1.v = W := ⟨_, rfl⟩
          have Bm26 : Blk Wm26 Wm4.heap.size 32 P1.v := hWm26 ▸ Bm25.set P1.v
          have Mm26 := hWm26 ▸ Mm25.other nMB P1.v
          have Am26 := hWm26 ▸ Am25.other nAB P1.v
          have bm26 := hWm26 ▸ below_setRow bm25 gB P1.v
          rename_i Kr hkr Kc hkc
          have HK : Hid _ := hkr
          clear hkr
          go_wp2_with (guard_target =~ wpList _ _ _ ({ dst := none, op := Op.store _ _ _, type := _, pos := _, after := _, guard := none } :: _) _ _; refine wpList_store_row rfl _ _ _ rfl Wm4.heap.size P1.v (by rfl) (by rfl) _ _ Bm25 (by kernel_rfl) (by rfl) (by kernel_rfl) ?_; rw [hWm26])
          refine HK.out _ _ ?_
          clear HK
          have c27 := Bm26.cell 4 (.int .i64 P1.po) rfl
          go_wp2_with fail
          exfalso
          have q1 := hF1 hq10
          have p2 := (of_decide_eq_true hq17)
          have p3 := (of_decide_eq_false hq24)
          omega

        | true =>
          obtain ⟨Wm28, hWm28⟩ : ∃ W, Wm4.alloc (.cells #[.int .i64 0, .int .i64 0, .int .u64 0, .int .u64 0, .int .i64 0] 32) = W := ⟨_, rfl⟩
          have bm28 := bel_al bm4 hWm28
          have Mm28 := Mm4.al hWm28
          have Am28 := Am4.al hWm28
          have Bm28 := blk_nw hWm28
          have gB : w.heap.size ≤ Wm4.heap.size := bm4.size
          have nMB : 0 ≠ Wm4.heap.size := fun e => by have := Mm4.lt; omega
          have nAB : Wm1.heap.size ≠ Wm4.heap.size := by have := Am4.lt; omega
          have nBA : Wm4.heap.size ≠ Wm1.heap.size := fun e => nAB e.symm
          obtain ⟨Wm29, hWm29⟩ : ∃ W, Wm28.setRow Wm4.heap.size P1.v = W := ⟨_, rfl⟩
          have Bm29 : Blk Wm29 Wm4.heap.size 32 P1.v := hWm29 ▸ Bm28.set P1.v
          have Mm29 := hWm29 ▸ Mm28.other nMB P1.v
          have Am29 := hWm29 ▸ Am28.other nAB P1.v
          have bm29 := hWm29 ▸ below_setRow bm28 gB P1.v
          rename_i Kr hkr Kc hkc
          have HK : Hid _ := hkr
          clear hkr
          go_wp2_with (guard_target =~ wpList _ _ _ ({ dst := none, op := Op.store _ _ _, type := _, pos := _, after := _, guard := none } :: _) _ _; refine wpList_store_row rfl _ _ _ rfl Wm4.heap.size P1.v (by rfl) (by rfl) _ _ Bm28 (by kernel_rfl) (by rfl) (by kernel_rfl) ?_; rw [hWm29])
          refine HK.out _ _ ?_
          clear HK
          have c30 := Bm29.cell 4 (.int .i64 P1.po) rfl
          go_wp2_with fail
          clear c30
          refine Calls.mono (alive_ft m _ Mm29) ?_
          rintro e Wm31 ⟨rfl, bb⟩
          have Mm31 := Mm29.kept bb
          have Am31 := Am29.kept bb
          have Bm31 := Bm29.kept bb
          have bm31 := bel_tr bm29 bb
          clear bb
          clear Mm29 Am29 Bm29 bm29
          go_wp2_with fail
          go_ret
          exact ⟨retB_fw (by rw [← HR.out]), bm31⟩




  | true =>
    cases hq34 : k1 with
    | false =>
      cases hq38 : (decide (0 < P0.po)) with
      | false =>
        obtain ⟨Wm39, hWm39⟩ : ∃ W, Wm4.alloc (.cells #[.int .i64 0, .int .i64 0, .int .u64 0, .int .u64 0, .int .i64 0] 32) = W := ⟨_, rfl⟩
        have bm39 := bel_al bm4 hWm39
        have Mm39 := Mm4.al hWm39
        have Am39 := Am4.al hWm39
        have Bm39 := blk_nw hWm39
        have gB : w.heap.size ≤ Wm4.heap.size := bm4.size
        have nMB : 0 ≠ Wm4.heap.size := fun e => by have := Mm4.lt; omega
        have nAB : Wm1.heap.size ≠ Wm4.heap.size := by have := Am4.lt; omega
        have nBA : Wm4.heap.size ≠ Wm1.heap.size := fun e => nAB e.symm
        obtain ⟨Wm40, hWm40⟩ : ∃ W, Wm39.setRow Wm4.heap.size P1.v = W := ⟨_, rfl⟩
        have Bm40 : Blk Wm40 Wm4.heap.size 32 P1.v := hWm40 ▸ Bm39.set P1.v
        have Mm40 := hWm40 ▸ Mm39.other nMB P1.v
        have Am40 := hWm40 ▸ Am39.other nAB P1.v
        have bm40 := hWm40 ▸ below_setRow bm39 gB P1.v
        rename_i Kr hkr Kc hkc
        have HK : Hid _ := hkr
        clear hkr
        go_wp2_with (guard_target =~ wpList _ _ _ ({ dst := none, op := Op.store _ _ _, type := _, pos := _, after := _, guard := none } :: _) _ _; refine wpList_store_row rfl _ _ _ rfl Wm4.heap.size P1.v (by rfl) (by rfl) _ _ Bm39 (by kernel_rfl) (by rfl) (by kernel_rfl) ?_; rw [hWm40])
        refine HK.out _ _ ?_
        clear HK
        have c41 := Am40.cell 4 (.int .i64 P0.po) rfl
        go_wp2_with fail
        exfalso
        have q0 := hF0 hq7
        have p2 := (of_decide_eq_false hq38)
        omega

      | true =>
        cases hq45 : (decide (P0.po < 65536)) with
        | false =>
          obtain ⟨Wm46, hWm46⟩ : ∃ W, Wm4.alloc (.cells #[.int .i64 0, .int .i64 0, .int .u64 0, .int .u64 0, .int .i64 0] 32) = W := ⟨_, rfl⟩
          have bm46 := bel_al bm4 hWm46
          have Mm46 := Mm4.al hWm46
          have Am46 := Am4.al hWm46
          have Bm46 := blk_nw hWm46
          have gB : w.heap.size ≤ Wm4.heap.size := bm4.size
          have nMB : 0 ≠ Wm4.heap.size := fun e => by have := Mm4.lt; omega
          have nAB : Wm1.heap.size ≠ Wm4.heap.size := by have := Am4.lt; omega
          have nBA : Wm4.heap.size ≠ Wm1.heap.size := fun e => nAB e.symm
          obtain ⟨Wm47, hWm47⟩ : ∃ W, Wm46.setRow Wm4.heap.size P1.v = W := ⟨_, rfl⟩
          have Bm47 : Blk Wm47 Wm4.heap.size 32 P1.v := hWm47 ▸ Bm46.set P1.v
          have Mm47 := hWm47 ▸ Mm46.other nMB P1.v
          have Am47 := hWm47 ▸ Am46.other nAB P1.v
          have bm47 := hWm47 ▸ below_setRow bm46 gB P1.v
          rename_i Kr hkr Kc hkc
          have HK : Hid _ := hkr
          clear hkr
          go_wp2_with (guard_target =~ wpList _ _ _ ({ dst := none, op := Op.store _ _ _, type := _, pos := _, after := _, guard := none } :: _) _ _; refine wpList_store_row rfl _ _ _ rfl Wm4.heap.size P1.v (by rfl) (by rfl) _ _ Bm46 (by kernel_rfl) (by rfl) (by kernel_rfl) ?_; rw [hWm47])
          refine HK.out _ _ ?_
          clear HK
          have c48 := Am47.cell 4 (.int .i64 P0.po) rfl
          go_wp2_with fail
          exfalso
          have q0 := hF0 hq7
          have p2 := (of_decide_eq_true hq38)
          have p3 := (of_decide_eq_false hq45)
          omega

        | true =>
          cases hq53 : (P0.a.fam == fam) with
          | false =>
            obtain ⟨Wm54, hWm54⟩ : ∃ W, Wm4.alloc (.cells #[.int .i64 0, .int .i64 0, .int .u64 0, .int .u64 0, .int .i64 0] 32) = W := ⟨_, rfl⟩
            have bm54 := bel_al bm4 hWm54
            have Mm54 := Mm4.al hWm54
            have Am54 := Am4.al hWm54
            have Bm54 := blk_nw hWm54
            have gB : w.heap.size ≤ Wm4.heap.size := bm4.size
            have nMB : 0 ≠ Wm4.heap.size := fun e => by have := Mm4.lt; omega
            have nAB : Wm1.heap.size ≠ Wm4.heap.size := by have := Am4.lt; omega
            have nBA : Wm4.heap.size ≠ Wm1.heap.size := fun e => nAB e.symm
            obtain ⟨Wm55, hWm55⟩ : ∃ W, Wm54.setRow Wm4.heap.size P1.v = W := ⟨_, rfl⟩
            have Bm55 : Blk Wm55 Wm4.heap.size 32 P1.v := hWm55 ▸ Bm54.set P1.v
            have Mm55 := hWm55 ▸ Mm54.other nMB P1.v
            have Am55 := hWm55 ▸ Am54.other nAB P1.v
            have bm55 := hWm55 ▸ below_setRow bm54 gB P1.v
            rename_i Kr hkr Kc hkc
            have HK : Hid _ := hkr
            clear hkr
            go_wp2_with (guard_target =~ wpList _ _ _ ({ dst := none, op := Op.store _ _ _, type := _, pos := _, after := _, guard := none } :: _) _ _; refine wpList_store_row rfl _ _ _ rfl Wm4.heap.size P1.v (by rfl) (by rfl) _ _ Bm54 (by kernel_rfl) (by rfl) (by kernel_rfl) ?_; rw [hWm55])
            refine HK.out _ _ ?_
            clear HK
            have c56 := Am55.cell 4 (.int .i64 P0.po) rfl
            have c57 := Am55.cell 1 (.int .i64 P0.a.fam) rfl
            go_wp2_with fail
            exfalso
            have q0 := hF0 hq7
            have p2 := (of_decide_eq_true hq38)
            have p3 := (of_decide_eq_true hq45)
            have p4 := (ne_of_beq_false hq53)
            omega

          | true =>
            obtain ⟨Wm58, hWm58⟩ : ∃ W, Wm4.alloc (.cells #[.int .i64 0, .int .i64 0, .int .u64 0, .int .u64 0, .int .i64 0] 32) = W := ⟨_, rfl⟩
            have bm58 := bel_al bm4 hWm58
            have Mm58 := Mm4.al hWm58
            have Am58 := Am4.al hWm58
            have Bm58 := blk_nw hWm58
            have gB : w.heap.size ≤ Wm4.heap.size := bm4.size
            have nMB : 0 ≠ Wm4.heap.size := fun e => by have := Mm4.lt; omega
            have nAB : Wm1.heap.size ≠ Wm4.heap.size := by have := Am4.lt; omega
            have nBA : Wm4.heap.size ≠ Wm1.heap.size := fun e => nAB e.symm
            obtain ⟨Wm59, hWm59⟩ : ∃ W, Wm58.setRow Wm4.heap.size P1.v = W := ⟨_, rfl⟩
            have Bm59 : Blk Wm59 Wm4.heap.size 32 P1.v := hWm59 ▸ Bm58.set P1.v
            have Mm59 := hWm59 ▸ Mm58.other nMB P1.v
            have Am59 := hWm59 ▸ Am58.other nAB P1.v
            have bm59 := hWm59 ▸ below_setRow bm58 gB P1.v
            rename_i Kr hkr Kc hkc
            have HK : Hid _ := hkr
            clear hkr
            go_wp2_with (guard_target =~ wpList _ _ _ ({ dst := none, op := Op.store _ _ _, type := _, pos := _, after := _, guard := none } :: _) _ _; refine wpList_store_row rfl _ _ _ rfl Wm4.heap.size P1.v (by rfl) (by rfl) _ _ Bm58 (by kernel_rfl) (by rfl) (by kernel_rfl) ?_; rw [hWm59])
            refine HK.out _ _ ?_
            clear HK
            have c60 := Am59.cell 4 (.int .i64 P0.po) rfl
            have c61 := Am59.cell 1 (.int .i64 P0.a.fam) rfl
            go_wp2_with fail
            clear c60 c61
            refine Calls.mono (alive_ft m _ Mm59) ?_
            rintro e Wm62 ⟨rfl, bb⟩
            have Mm62 := Mm59.kept bb
            have Am62 := Am59.kept bb
            have Bm62 := Bm59.kept bb
            have bm62 := bel_tr bm59 bb
            clear bb
            clear Mm59 Am59 Bm59 bm59
            go_wp2_with fail
            go_ret
            exact ⟨retB_fw (by rw [← HR.out]), bm62⟩




    | true =>
      obtain ⟨Wm63, hWm63⟩ : ∃ W, Wm4.alloc (.cells #[.int .i64 0, .int .i64 0, .int .u64 0, .int .u64 0, .int .i64 0] 32) = W := ⟨_, rfl⟩
      have bm63 := bel_al bm4 hWm63
      have Mm63 := Mm4.al hWm63
      have Am63 := Am4.al hWm63
      have Bm63 := blk_nw hWm63
      have gB : w.heap.size ≤ Wm4.heap.size := bm4.size
      have nMB : 0 ≠ Wm4.heap.size := fun e => by have := Mm4.lt; omega
      have nAB : Wm1.heap.size ≠ Wm4.heap.size := by have := Am4.lt; omega
      have nBA : Wm4.heap.size ≠ Wm1.heap.size := fun e => nAB e.symm
      obtain ⟨Wm64, hWm64⟩ : ∃ W, Wm63.setRow Wm4.heap.size P1.v = W := ⟨_, rfl⟩
      have Bm64 : Blk Wm64 Wm4.heap.size 32 P1.v := hWm64 ▸ Bm63.set P1.v
      have Mm64 := hWm64 ▸ Mm63.other nMB P1.v
      have Am64 := hWm64 ▸ Am63.other nAB P1.v
      have bm64 := hWm64 ▸ below_setRow bm63 gB P1.v
      rename_i Kr hkr Kc hkc
      have HK : Hid _ := hkr
      clear hkr
      go_wp2_with (guard_target =~ wpList _ _ _ ({ dst := none, op := Op.store _ _ _, type := _, pos := _, after := _, guard := none } :: _) _ _; refine wpList_store_row rfl _ _ _ rfl Wm4.heap.size P1.v (by rfl) (by rfl) _ _ Bm63 (by kernel_rfl) (by rfl) (by kernel_rfl) ?_; rw [hWm64])
      refine HK.out _ _ ?_
      clear HK
      go_wp2_with fail
      exfalso
      have q0 := hF0 hq7
      have q1 := hF1 hq34
      exact q0.2.2.2 q1.2.2
theorem ftpSides_walk (fam : Int) (s : ByteArray) (w : World) (m : Int) (hm : w.cell? ⟨0, 0, none⟩ = some (.int .i64 m)) :
    Calls Tryd.prog 8 #[.int .i64 fam, .string s] w fun e w' => e = .returned (.bool true) ∧ Below w.heap.size w w' := by
  have h := ftpSides_list fam s.data.toList m w ⟨hm⟩
  rw [ba_eta] at h
  exact h
end Go.Proofs.YtnadfacbfcdkgaaDoor
namespace Go.Proofs.YtnadfacbfcdkgaaDoor.ftpSides
open Go.ChangeShapes Go.WideShapes Go.ChangeAt Go.RowKit
set_option linter.unusedVariables false
set_option linter.unusedSimpArgs false
theorem own : ownKnob Tryd.prog.godebug = none := by kernel_rfl
theorem laidOut : laidOutB Tryd.prog = true := by kernel_rfl
set_option maxRecDepth 100000 in
theorem contract (H : Type) (enc : TypeId × Value → H) (W : World) (base : Nat) (args : Array Value) (ds gs : List (DataW H)) (before : List MemPlace)
    (hval : ∀ (j : Nat) t v, Tryd.f8.params[j]? = some t → args[j]? = some v → Value.okWide Tryd.prog W .any base t v)
    (hW : DataW.Whole enc Tryd.prog Tryd.f8.params.toList Rows.ftpSidesSpec.vars false W args.toList ds gs before)
    (hsz : (DataW.weightsEach Tryd.prog (Tryd.f8.params.toList ++ Rows.ftpSidesSpec.plain.varTypes Tryd.prog) (ds ++ gs)).all (· ≤ reachBytes) = true)
    (hL : laidMetH Tryd.prog Rows.ftpSidesRow.laid W) (hsh : W.ShapedOpen Tryd.prog) :
    Calls Tryd.prog 8 args W fun e W' => ∃ v, e = .returned v ∧ Rows.ftpSidesSpec.post enc Tryd.prog Tryd.f8 false true false false W args v W' := by
  have hW' := hW
  obtain ⟨p, q, hA0, hV, rfl, hfz, hnd⟩ := hW
  have hA : DataW.TrodAll enc Tryd.prog W 0 (fun _ => true) true Tryd.f8.params.toList args.toList ds p := hA0
  rw [Tryd.params8] at hA hval hsz
  obtain ⟨v0, vs0, d0, ds0, p0, q0, hargs, rfl, rfl, h0, r0⟩ := trodAll_cons hA
  obtain ⟨v1, vs1, d1, ds1, p1, q1, rfl, rfl, rfl, h1, r1⟩ := trodAll_cons r0
  obtain ⟨rfl, rfl, rfl⟩ := trodAll_nil r1
  obtain rfl : args = #[v0, v1] := by cases args; simp_all
  obtain ⟨rfl, rfl⟩ := trodVars_none hV
  have lt0 : ∀ x ∈ p0, x.block < W.heap.size := by obtain ⟨m, hm⟩ := h0; exact DataW.trod_lt m _ _ _ hm
  obtain ⟨x0, rfl, rfl, rfl, w0⟩ := open_int Tryd.underlying3 (hval 0 3 v0 rfl rfl) h0
  have lt1 : ∀ x ∈ p1, x.block < W.heap.size := by obtain ⟨m, hm⟩ := h1; exact DataW.trod_lt m _ _ _ hm
  obtain ⟨s1, rfl, rfl, rfl, w1⟩ := Go.ChangeMaps.open_string Tryd.underlying9 (hval 1 9 v1 rfl rfl) h1
  obtain ⟨m, hm⟩ := maxLen_cell hsh
  clear hA0 hval
  refine (ftpSides_walk x0 s1 W m  hm).mono fun e W' ⟨he, bel⟩ => ?_
  subst he
  exact ⟨_, rfl, _, _, _, [], _, [], hW', trodAll_mk1 (shut_bool Tryd.underlying4 _), (trodAll_cons_mk (Below.trod laidOut (by kernel_rfl) (of_decide_eq_true (by kernel_rfl)) h0 bel lt0) (trodAll_cons_mk (Below.trod laidOut (by kernel_rfl) (of_decide_eq_true (by kernel_rfl)) h1 bel lt1) trodAll_mk0)), rfl, bel.frame _, fun h => by cases h⟩
theorem laid_met (os : Os) : laidMet Tryd.prog Rows.ftpSidesRow.laid (({ World.holding Tryd.prog os ⟨#[], #[], []⟩ with heap := (((World.holding Tryd.prog os ⟨#[], #[], []⟩).heap.modify 1 (laidOne (cellsA Rows.laid_unicode_utf8_first))).modify 2 (laidOne (cellsB Rows.laid_unicode_utf8_acceptRanges))) } : World).forCall (fun _ _ => 0) ⟨#[], #[.int .i64 0, .string ByteArray.empty], []⟩).memory :=
  laidMet_of_run' 8 (by kernel_rfl) (by kernel_rfl)
theorem reads (os : Os) {H : Type} (enc : TypeId × Value → H) : ∃ places, DataW.whole enc Tryd.prog (({ World.holding Tryd.prog os ⟨#[], #[], []⟩ with heap := (((World.holding Tryd.prog os ⟨#[], #[], []⟩).heap.modify 1 (laidOne (cellsA Rows.laid_unicode_utf8_first))).modify 2 (laidOne (cellsB Rows.laid_unicode_utf8_acceptRanges))) } : World).forCall (fun _ _ => 0) ⟨#[], #[.int .i64 0, .string ByteArray.empty], []⟩).memory Tryd.f8.params.toList Rows.ftpSidesSpec.vars false (#[.int .i64 0, .string ByteArray.empty] : Array Value).toList 8 = some ([.lit (.int .i64 0), .lit (.string [])], [], places) :=
  ⟨[], by kernel_rfl⟩
set_option maxRecDepth 100000 in
theorem lifted (os : Os) (started : os.Started) (H : Type) (enc : TypeId × Value → H) (F : Stop.Interp) :
    ReturnsInHanded {} Tryd.checked os 8 .any ((OpenSpec.ofChange Rows.ftpSidesSpec).preRow enc Tryd.prog Tryd.f8 Rows.ftpSidesRow.domain false Rows.ftpSidesRow.laid) (((OpenSpec.ofChange Rows.ftpSidesSpec).at F).post enc Tryd.prog Tryd.f8 false true false false) := by
  obtain ⟨places, hx⟩ := reads os enc
  refine returnsInHanded_of_row (C := Tryd.checked) (s := (OpenSpec.ofChange Rows.ftpSidesSpec)) own started (by kernel_rfl) Tryd.func8
    (witness_row_at (enc := enc) (C := Tryd.checked) false ({ World.holding Tryd.prog os ⟨#[], #[], []⟩ with heap := (((World.holding Tryd.prog os ⟨#[], #[], []⟩).heap.modify 1 (laidOne (cellsA Rows.laid_unicode_utf8_first))).modify 2 (laidOne (cellsB Rows.laid_unicode_utf8_acceptRanges))) } : World) #[.int .i64 0, .string ByteArray.empty] rfl (by kernel_rfl) (by kernel_rfl) (by kernel_rfl)
      (OpenSpec.preRow_of_cond 8 hx (by kernel_rfl) (fun k hk => by cases hk) (by kernel_rfl) (laid_met os))) ?_
  intro W base args ds gs before hval hW _ _ hsz hL hsh _
  exact contract H enc W base args ds gs before hval hW hsz hL hsh
theorem said : Rows.FtpSidesSaid :=
  OpenClaim.holds_of_cond 8 Tryd.f8 rfl rfl rfl rfl rfl rfl rfl ⟨rfl, rfl, rfl, rfl, rfl⟩ rfl rfl rfl rfl rfl (by kernel_rfl) Tryd.func8 (by kernel_rfl)
    (of_decide_eq_true (by kernel_rfl)) (by unfold Func.isWrapper; first | (rw [if_pos (by decide +kernel)]; kernel_rfl) | (rw [if_neg (by decide +kernel)]; exact ⟨rfl, rfl⟩))
    (fun os started H enc _ F => by rw [OpenClaim.pre_eq_preRow]; exact lifted os started H enc F)
theorem plain (f : FuncId) (fn : Func) (hf : Tryd.pinned.checked.prog.funcNamed "stockade/stockadelaw18.FtpSides" = some f) (hfn : Tryd.pinned.checked.prog.funcs[f]? = some fn) :
    false = Tryd.pinned.checked.prog.looks [] ∧ ∀ (j : Nat) t, fn.params[j]? = some t → Tryd.pinned.checked.prog.wantsStandIn t = false := by
  obtain rfl : f = 8 := Option.some.inj ((show Tryd.prog.funcNamed "stockade/stockadelaw18.FtpSides" = some 8 by kernel_rfl).symm.trans hf) |>.symm
  obtain rfl : fn = Tryd.f8 := (Option.some.inj (Tryd.func8.symm.trans hfn)).symm
  refine ⟨by kernel_rfl, fun j t ht => ?_⟩
  rw [Tryd.params8] at ht
  have hm : t ∈ [3, 9] := by simpa using Array.mem_of_getElem? ht
  have hall : ([3, 9].all fun u => !Tryd.prog.wantsStandIn u) = true := by kernel_rfl
  exact (show Tryd.prog.wantsStandIn t = false by simpa using List.all_eq_true.1 hall t hm)
end Go.Proofs.YtnadfacbfcdkgaaDoor.ftpSides
namespace Go.Proofs.YtnadfacbfcdkgaaDoor
theorem ftpSides_holds : Rows.FtpSidesCardSaid :=
  Claim7.holds_tied_plain_at .later [] _ _ _ _ ftpSides.said (fun _ h => by cases h) (by kernel_rfl) (fun _ h => by cases h) ftpSides_row_tie rfl ⟨rfl, rfl⟩ (by kernel_rfl) rfl ftpSides.plain (by kernel_rfl)
end Go.Proofs.YtnadfacbfcdkgaaDoor
