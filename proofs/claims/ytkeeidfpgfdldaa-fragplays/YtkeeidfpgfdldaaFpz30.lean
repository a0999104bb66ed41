/- Texts joined: FpL -/
import Derived.Test.YtkeeidfpgfdldaaFpz25
namespace Go.Proofs.Ytkeeidfpgfdldaa
abbrev fpz30o0 : Oper := { dst := none, op := Op.store 40 (.tmp 51) (.tmp 50), type := 0, pos := "ref.go:112", after := #[{ on := 6, ground := Ground.data }, { on := 5, ground := Ground.data }, { on := 5, ground := Ground.chain }, { on := 0, ground := Ground.phase }, { on := 1, ground := Ground.phase }, { on := 2, ground := Ground.phase }, { on := 3, ground := Ground.phase }, { on := 4, ground := Ground.phase }, { on := 5, ground := Ground.phase }], guard := none }
abbrev fpz30o1 : Oper := { dst := some 51, op := Op.fieldAddr 42 (.tmp 4) 10, type := 0, pos := "ref.go:112", after := #[{ on := 0, ground := Ground.phase }, { on := 1, ground := Ground.phase }, { on := 2, ground := Ground.phase }, { on := 3, ground := Ground.phase }, { on := 4, ground := Ground.phase }, { on := 5, ground := Ground.phase }], guard := none }
abbrev fpz30o2 : Oper := { dst := some 50, op := Op.call { callee := Callee.builtin Builtin.append, args := #[.tmp 47, .tmp 49], argTypes := #[40, 40] }, type := 40, pos := "ref.go:112", after := #[{ on := 2, ground := Ground.data }, { on := 4, ground := Ground.data }, { on := 2, ground := Ground.chain }], guard := none }
abbrev fpz30o3 : Oper := { dst := some 47, op := Op.call { callee := Callee.builtin Builtin.append, args := #[.const (Value.slice none 0 0), .tmp 46], argTypes := #[40, 40] }, type := 40, pos := "ref.go:112", after := #[{ on := 1, ground := Ground.data }], guard := none }
abbrev fpz30o4 : Oper := { dst := some 49, op := Op.load 40 (.tmp 48), type := 40, pos := "ref.go:112", after := #[{ on := 3, ground := Ground.data }], guard := none }
abbrev fpz30o5 : Oper := { dst := some 46, op := Op.load 40 (.tmp 45), type := 40, pos := "ref.go:112", after := #[{ on := 0, ground := Ground.data }], guard := none }
abbrev fpz30o6 : Oper := { dst := some 45, op := Op.fieldAddr 42 (.tmp 4) 10, type := 0, pos := "ref.go:112", after := #[], guard := none }
abbrev fpz30o7 : Oper := { dst := some 48, op := Op.fieldAddr 42 (.tmp 8) 10, type := 0, pos := "ref.go:112", after := #[], guard := none }
end Go.Proofs.Ytkeeidfpgfdldaa
namespace Go.Proofs.Ytkeeidfpgfdldaa
open Go.RowKit
set_option linter.unusedVariables false
set_option linter.unusedSimpArgs false
theorem first_out (q : PkIn) (xa : Option Addr) (xc : Nat) (a2 : Option Addr) (c2 : Nat) (D2 : List Int) (h : q.p.dat = D2) :
  ((((((q.v.setIfInBounds 9 (.bool false)).setIfInBounds 10 (.int .u32 0)).setIfInBounds 11 (.int .i64 0)).setIfInBounds 12 (.bool false)).setIfInBounds 13 (.slice xa q.p.X.length xc)).setIfInBounds 14 (.slice none 0 0)).setIfInBounds 14 (.slice a2 D2.length c2) = pkV (packD [q.p]) xa xc a2 c2 := by
 have e : packD [q.p] = ⟨q.p.f, q.p.s, q.p.d, q.p.pr, q.p.ho, false, 0, 0, false, q.p.X, D2⟩ := by
  subst h
  simp [packD]
 rw [e]
 simp [List.setIfInBounds_toArray]
theorem first_14 (q : PkIn) (xa : Option Addr) (xc : Nat) : (((((((q.v.setIfInBounds 9 (.bool false)).setIfInBounds 10 (.int .u32 0)).setIfInBounds 11 (.int .i64 0)).setIfInBounds 12 (.bool false)).setIfInBounds 13 (.slice xa q.p.X.length xc)).setIfInBounds 14 (.slice none 0 0)))[14]? = some (.slice none ([] : List Int).length 0) := by
 simp [List.setIfInBounds_toArray]
set_option maxRecDepth 100000 in
set_option maxHeartbeats 4000000 in
theorem rwhole_any (g : DgIn) (w : World) (hg : g.ok w) (R : Int) (hps : PsOk (g.ps.map (·.p)) R) (P : Ending → World → Prop)
  (HP0 : Hid (follow 65536 (g.ps.map (·.p)) 0 = none → ∀ w', Below w.heap.size w w' → P (.returned (.tuple #[.agg z15, .bool false])) w'))
  (HP1 : Hid (∀ C, follow 65536 (g.ps.map (·.p)) 0 = some C → ∀ w' xa xc da dc, RowI w' xa (packD C).X → (xa = none → xc = 0) → Row w' da (C.flatMap (·.dat)) → (da = none → dc = 0) → (∀ x, xa = some x → w.heap.size ≤ x.block) → (∀ x, da = some x → w.heap.size ≤ x.block) → Below w.heap.size w w' → P (.returned (.tuple #[.agg (pkV (packD C) xa xc da dc), .bool true])) w')) :
  Calls Try.prog 37 #[.agg g.v] w P := by
 have HSI : Hid (∀ q : PkIn, (Try.prog.info? 42).map (·.size) = some q.v.size) := info_ip
 have HST : Hid (∀ (W : World) (q : PkIn), (Instr.storeAt 42 (.pointer (some ⟨W.heap.size, 0, none⟩)) (.agg q.v)).run Try.prog (W.alloc (.cells z15 42)) = .ok () (W.alloc (.cells q.v 42))) := store_ip
 have HG : Hid (g.ok w) := hg
 obtain ⟨N, hN⟩ : ∃ N, g.ps.length = N := ⟨_, rfl⟩
 have HN : Hid (g.ps.length = N) := hN
 have hfew : N ≤ 65536 := by rw [← hN]; exact hg.few
 have HPS : Hid (PsOk (g.ps.map (·.p)) R) := hps
 obtain ⟨W1, hW1⟩ : ∃ W1, w.alloc (.cells g.v 79) = W1 := ⟨_, rfl⟩
 obtain ⟨W2, hW2⟩ : ∃ W2, W1.alloc (.cells z15 42) = W2 := ⟨_, rfl⟩
 obtain ⟨W3, hW3⟩ : ∃ W3, W2.alloc (.cells z15 42) = W3 := ⟨_, rfl⟩
 have hz1 : W1.heap.size = w.heap.size + 1 := by rw [← hW1]; simp
 have hz2 : W2.heap.size = w.heap.size + 2 := by rw [← hW2]; simp [hz1]
 have hgb := ((blk_nw hW1).al hW2).al hW3
 have hg2 := (blk_nw hW2).al hW3
 have hg4 := blk_nw hW3
 rw [hz1] at hg2
 rw [hz2] at hg4
 have bel := bel_al (bel_al (bel_nw hW1) hW2) hW3
 have HZ : Hid (W1.heap.size = w.heap.size + 1 ∧ W2.heap.size = w.heap.size + 2) := ⟨hz1, hz2⟩
 clear hN hg hps
 go_enter Try.func37, Try.ntmps37
 go_wp2_with fail
 clear hW1 hW2 hW3 hz1 hz2
 go_loopw [5] (fun s5 wr => ∃ (a : Int) (C : List Pkt) (OA : Array Value) (da : Option Addr) (dc : Nat), s5 = .int .i64 a ∧ 0 ≤ a ∧ a ≤ 65535 ∧ Hid ((C = [] ∧ a = 0) ∨ (C ≠ [] ∧ 1 ≤ a)) ∧ Hid ((C.length : Int) ≤ a ∧ ((C.flatMap (·.dat)).length : Int) = a) ∧ Hid (follow 65536 (g.ps.map (·.p)) 0 = (follow (65536 - C.length) (g.ps.map (·.p)) a).map (C ++ ·)) ∧ Hid (OutP wr (w.heap.size + 2) C OA da dc) ∧ Hid (Blk wr w.heap.size 79 g.v) ∧ Hid (Blk wr (w.heap.size + 1) 42 z15) ∧ Below w.heap.size w wr) (fun s5 _ => (65536 - intOf s5).toNat)
 case atStart =>
  refine ⟨0, [], z15, none, 0, rfl, by omega, by omega, .inl ⟨rfl, rfl⟩, ⟨by simp, by simp⟩, ?_, ⟨hg4, rfl, row_nil _ _, fun _ => rfl, fun _ => ⟨rfl, rfl⟩, fun h => absurd rfl h⟩, hgb, hg2, bel⟩
  show _ = _
  simp
 case round =>
  clear hgb hg2 hg4 bel
  obtain ⟨a, C, OA, da, dc, rfl, ha0, ha1, HC, HLen, HFol, HOut, Hgb, Hg2, bel⟩ := hrel
  have g8 := (dg_cells Hgb.out).1
  rw [HN.out] at g8
  obtain ⟨ga, hga⟩ : ∃ x, g.pa = x := ⟨_, rfl⟩
  have HGA : Hid (g.pa = ga) := hga
  rw [hga] at g8
  clear hga
  go_wp2_with fail
  go_loopw [6, 7] (fun s6 s7 w9 => ∃ (m : Nat) (v : Int), m ≤ N ∧ s7 = .int .i64 m ∧ s6 = .int .i64 v ∧ Hid (NextAt g.ps a m v) ∧ wr = w9) (fun _ s7 _ => N - (intOf s7).toNat)
  case atStart => exact ⟨0, -1, Nat.zero_le _, rfl, rfl, .inl ⟨rfl, rfl⟩, rfl⟩
  case round =>
   obtain ⟨m, v, hm, rfl, rfl, HV, rfl⟩ := hrel
   by_cases hmn : m < N
   ·have im : (m : Int) < (N : Int) := by omega
    have im0 : (0 : Int) ≤ (m : Int) := by omega
    obtain ⟨q, hq⟩ : ∃ q, g.ps[m]? = some q := ⟨_, List.getElem?_eq_getElem (by rw [HN.out]; exact hmn)⟩
    obtain ⟨pb, po, hpa, hqc⟩ := (HG.out.row.low bel).cells m q hq
    rw [HGA.out] at hpa
    have d11 := hqc.2 11 (.int .i64 q.p.of) rfl
    have HS : Hid (NextAt g.ps a (m + 1) (if q.p.of = a then (m : Int) else v)) := HV.out.step hq
    obtain ⟨qo, hqo⟩ : ∃ x, q.p.of = x := ⟨_, rfl⟩
    rw [hqo] at d11 HS
    subst hpa
    clear hq hqc hqo
    by_cases hx : qo = a
    ·have ex : (qo == a) = true := by simp [hx]
     have HS' : Hid (NextAt g.ps a (m + 1) (m : Int)) := by have := HS.out; rwa [if_pos hx] at this
     clear HS
     subst hx
     go_wp2_with fail
     exact ⟨⟨m + 1, m, by omega, by go_num, rfl, HS', trivial⟩, by simp [intOf]; omega⟩
    ·have ex : (qo == a) = false := by simp [hx]
     have HS' : Hid (NextAt g.ps a (m + 1) v) := by have := HS.out; rwa [if_neg hx] at this
     clear HS
     go_wp2_with fail
     exact ⟨⟨m + 1, v, by omega, by go_num, rfl, HS', trivial⟩, by simp [intOf]; omega⟩
   ·have im : ¬ (m : Int) < (N : Int) := by omega
    have e : m = N := by omega
    subst e
    have hT : g.ps.take m = g.ps := by rw [← HN.out]; exact List.take_length
    have HV' := HV.out
    unfold NextAt at HV'
    rw [hT] at HV'
    have hfu : ∃ n, 65536 - C.length = n + 1 := ⟨65536 - C.length - 1, by have := HLen.out; omega⟩
    obtain ⟨n, hn⟩ := hfu
    have HF2 : Hid (follow 65536 (g.ps.map (·.p)) 0 = (follow (n + 1) (g.ps.map (·.p)) a).map (C ++ ·)) := by have := HFol.out; rwa [hn] at this
    clear HV HFol hT
    rcases HV' with ⟨rfl, hnx⟩ | ⟨j, q, rfl, hj, hq, hnx⟩
    ·have hfn : follow 65536 (g.ps.map (·.p)) 0 = none := by rw [HF2.out, follow_none hnx]; rfl
     have hg2 := Hg2.out
     have bz : Below w.heap.size w (wr.setRow (w.heap.size + 1) z15) := below_setRow bel (by omega) _
     have fin : Hid (P (.returned (.tuple #[.agg z15, .bool false])) (wr.setRow (w.heap.size + 1) z15)) := HP0.out hfn _ bz
     have hbz : Blk (wr.setRow (w.heap.size + 1) z15) (w.heap.size + 1) 42 z15 := hg2.set z15
     clear hnx hfn bz
     go_wp2_with (refine wpList_store_blk rfl 42 _ _ rfl (w.heap.size + 1) z15 z15 (by rfl) (by rfl) hg2 (by kernel_rfl) rfl (by kernel_rfl) ?_)
     exact ret_cell_tmp (k := 2) (j := 3) Try.f37 (by kernel_rfl) hbz Try.underlying42 (by kernel_rfl) (by rfl) (by rfl) rfl fin.out
    ·have hmem := List.mem_of_getElem? hq
     obtain ⟨hnm, hof⟩ := nextP_mem hnx
     obtain ⟨pb, po, hpa, hqc⟩ := (HG.out.row.low bel).cells j q hq
     rw [HGA.out] at hpa
     have hqi := HG.out.in_ q hmem
     have hqe := HPS.out.each q.p hnm
     have htop := HPS.out.top
     have HQO : Hid (q.ok wr) := (HG.out.row.low bel).each q hmem
     have HQW : Hid (q.ok w) := HG.out.row.each q hmem
     have hsq := HSI.out q
     have hst := HST.out wr q
     have KE : Hid (∀ W, Calls Try.prog 50 #[.agg q.v] W fun e w' => e = .returned (.int .i64 q.p.en) ∧ Below W.heap.size W w') := fun W => end_any q W hqi
     have jm : (j : Int) < (m : Int) := by omega
     have j0 : (0 : Int) ≤ (j : Int) := by omega
     have jn : decide ((j : Int) < 0) = false := by simp
     have HNX : Hid (nextP (g.ps.map (·.p)) a = some q.p) := hnx
     have hqen : q.p.en = a + q.p.dat.length := by show q.p.of + _ = _; rw [hof]
     have HQE : Hid (q.p.en = a + q.p.dat.length ∧ q.p.en ≤ 65535 ∧ 1 ≤ q.p.dat.length) := ⟨hqen, by have : q.p.en ≤ R := hqe.2.2; omega, hqe.2.1⟩
     obtain ⟨X0, hX0⟩ : ∃ X0, wr.alloc (.cells q.v 42) = X0 := ⟨_, rfl⟩
     have hq8 := blk_nw hX0
     have bX0 := bel_nw hX0
     have h48 : w.heap.size + 2 < wr.heap.size := HOut.out.blk.lt
     subst hpa
     clear hq hnx hmem hqi hnm hof hqe hqen
     rcases HC.out with ⟨hC0, ha00⟩ | ⟨hCne, ha1'⟩
     ·have ea : (a == 0) = true := by simp [ha00]
      have HC0 : Hid (C = []) := hC0
      have HA0 : Hid (a = 0) := ha00
      obtain ⟨hz, _⟩ := HOut.out.zero hC0
      have b0 := HOut.out.blk.kept bX0
      rw [hz] at b0
      obtain ⟨X1, hX1⟩ : ∃ x, X0.setRow (w.heap.size + 2) q.v = x := ⟨_, rfl⟩
      have b1 : Blk X1 (w.heap.size + 2) 42 q.v := by rw [← hX1]; exact b0.set _
      obtain ⟨X2, hX2⟩ : ∃ x, X1.setCell ⟨w.heap.size + 2, 9, none⟩ (.bool false) = x := ⟨_, rfl⟩
      have b2 : Blk X2 (w.heap.size + 2) 42 (q.v.setIfInBounds 9 (.bool false)) := by rw [← hX2]; exact b1.put 9 _
      obtain ⟨X3, hX3⟩ : ∃ x, X2.setCell ⟨w.heap.size + 2, 10, none⟩ (.int .u32 0) = x := ⟨_, rfl⟩
      have b3 : Blk X3 (w.heap.size + 2) 42 ((q.v.setIfInBounds 9 (.bool false)).setIfInBounds 10 (.int .u32 0)) := by rw [← hX3]; exact b2.put 10 _
      obtain ⟨X4, hX4⟩ : ∃ x, X3.setCell ⟨w.heap.size + 2, 11, none⟩ (.int .i64 0) = x := ⟨_, rfl⟩
      have b4 : Blk X4 (w.heap.size + 2) 42 (((q.v.setIfInBounds 9 (.bool false)).setIfInBounds 10 (.int .u32 0)).setIfInBounds 11 (.int .i64 0)) := by rw [← hX4]; exact b3.put 11 _
      obtain ⟨X5, hX5⟩ : ∃ x, X4.setCell ⟨w.heap.size + 2, 12, none⟩ (.bool false) = x := ⟨_, rfl⟩
      have b5 : Blk X5 (w.heap.size + 2) 42 ((((q.v.setIfInBounds 9 (.bool false)).setIfInBounds 10 (.int .u32 0)).setIfInBounds 11 (.int .i64 0)).setIfInBounds 12 (.bool false)) := by rw [← hX5]; exact b4.put 12 _
      have hbu5 : But (fun b => b = w.heap.size + 2) X0 X5 := by
       rw [← hX5, ← hX4, ← hX3, ← hX2, ← hX1]
       exact (((((But.refl (fun b => b = w.heap.size + 2) _).setRow _ (.inl rfl) _).setCell _ 9 (.inl rfl) _).setCell _ 10 (.inl rfl) _).setCell _ 11 (.inl rfl) _).setCell _ 12 (.inl rfl) _
      have bel5 : Below w.heap.size w X5 := by
       rw [← hX5, ← hX4, ← hX3, ← hX2, ← hX1]
       exact ((((below_setRow (bel_tr bel bX0) (by omega) _).setCell (by simp) _).setCell (by simp) _).setCell (by simp) _).setCell (by simp) _
      have hqo5 : q.ok X5 := HQW.out.below bel5
      obtain ⟨xa, xc, X6, hrun, hOX, hXn, bb6⟩ := run_copyI X5 39 q.xa q.xc q.p.X hqo5.exts hqo5.xnil
      have b6 := b5.kept bb6
      obtain ⟨X7, hX7⟩ : ∃ x, X6.setCell ⟨w.heap.size + 2, 13, none⟩ (.slice xa q.p.X.length xc) = x := ⟨_, rfl⟩
      have b7 : Blk X7 (w.heap.size + 2) 42 (((((q.v.setIfInBounds 9 (.bool false)).setIfInBounds 10 (.int .u32 0)).setIfInBounds 11 (.int .i64 0)).setIfInBounds 12 (.bool false)).setIfInBounds 13 (.slice xa q.p.X.length xc)) := by rw [← hX7]; exact b6.put 13 _
      obtain ⟨X8, hX8⟩ : ∃ x, X7.setCell ⟨w.heap.size + 2, 14, none⟩ (.slice none 0 0) = x := ⟨_, rfl⟩
      have b8 : Blk X8 (w.heap.size + 2) 42 ((((((q.v.setIfInBounds 9 (.bool false)).setIfInBounds 10 (.int .u32 0)).setIfInBounds 11 (.int .i64 0)).setIfInBounds 12 (.bool false)).setIfInBounds 13 (.slice xa q.p.X.length xc)).setIfInBounds 14 (.slice none 0 0)) := by rw [← hX8]; exact b7.put 14 _
      have hbu8 : But (fun b => b = w.heap.size + 2) X6 X8 := by
       rw [← hX8, ← hX7]
       exact ((But.refl (fun b => b = w.heap.size + 2) _).setCell _ 13 (.inl rfl) _).setCell _ 14 (.inl rfl) _
      have bel0 : Below w.heap.size w X8 := by
       rw [← hX8, ← hX7]
       exact ((bel_tr bel5 bb6).setCell (by simp) _).setCell (by simp) _
      have hq85 := hq8.but hbu5 (by omega)
      have hx5z : w.heap.size + 2 < X5.heap.size := b5.lt
      have m9 := b1.cell 9 (.bool q.p.fg) rfl
      have z9 := b1.frozen 9
      have m10 := b2.cell 10 (.int .u32 q.p.id) rfl
      have z10 := b2.frozen 10
      have m11 := b3.cell 11 (.int .i64 q.p.of) rfl
      have z11 := b3.frozen 11
      have m12 := b4.cell 12 (.bool q.p.mo) rfl
      have z12 := b4.frozen 12
      have m13 := b6.cell 13 (.slice q.xa q.p.X.length q.xc) rfl
      have z13 := b6.frozen 13
      have m14 := b7.cell 14 (.slice q.da q.p.dat.length q.dc) rfl
      have z14' := b7.frozen 14
      have n13 : X5.cell? ⟨wr.heap.size, 13, none⟩ = some (.slice q.xa q.p.X.length q.xc) := hq85.cell 13 _ rfl
      have hpall : q.v.all (·.oneCell') = true := pk_all q.p q.xa q.xc q.da q.dc
      go_wp2_with (first
       | (refine wpList_load_at rfl _ _ rfl pb (po + j * 15) (by rfl) _ hqc Try.underlying42 hsq ?_)
       | (refine wpList_store_new _ _ rfl _ _ _ rfl _ _ rfl rfl hst ?_)
       | (refine wpList_load_at rfl _ _ rfl wr.heap.size 0 (by rfl) _ hq8.at_ Try.underlying42 hsq ?_)
       | (refine wpList_store_blk rfl 42 _ _ rfl (w.heap.size + 2) q.v z15 (by rfl) (by rfl) b0 hsq rfl hpall ?_; rw [hX1])
       | (at_builtin; refine wpList_run_app rfl 39 _ _ rfl _ _ (by rfl) (by rfl) _ _ hrun ?_))
      have hq8 := (hq85.kept bb6).but hbu8 (by omega)
      have hOA0 := b8
      obtain ⟨OA8, hOA8⟩ : ∃ x, (((((q.v.setIfInBounds 9 (.bool false)).setIfInBounds 10 (.int .u32 0)).setIfInBounds 11 (.int .i64 0)).setIfInBounds 12 (.bool false)).setIfInBounds 13 (.slice xa q.p.X.length xc)).setIfInBounds 14 (.slice none 0 0) = x := ⟨_, rfl⟩
      have hOA : Blk X8 (w.heap.size + 2) 42 OA8 := by rw [← hOA8]; exact b8
      have c14 : X8.cell? ⟨w.heap.size + 2, 14, none⟩ = some (.slice none ([] : List Int).length 0) := b8.cell 14 _ (first_14 q xa xc)
      have hDr : Row X8 none [] := row_nil _ _
      have hDn : (none : Option Addr) = none → 0 = 0 := fun _ => rfl
      have hDl : ([] : List Int).length ≤ 65535 := by simp
      have hqo8 := HQW.out.below bel0
      have hQd := hqo8.data
      have hQn := hqo8.dnil
      have hDb : M.Bytes (([] : List Int) ++ q.p.dat) := hQd.bytes
      have hQl : q.p.dat.length ≤ 65535 := by have := HQE.out; omega
      have Hgb0 : Hid (Blk X8 w.heap.size 79 g.v) := (((Hgb.out.kept bX0).but hbu5 (by omega)).kept bb6).but hbu8 (by omega)
      have Hg20 : Hid (Blk X8 (w.heap.size + 1) 42 z15) := (((Hg2.out.kept bX0).but hbu5 (by omega)).kept bb6).but hbu8 (by omega)
      have hXfar : ∀ x, xa = some x → w.heap.size + 2 < x.block := fun x hx => by
       have h2 := hOX.2
       rcases h2 with ⟨h3, _⟩ | ⟨gx, cap, cur, h3, h4, _⟩
       ·simp only [Value.slice.injEq] at h3
        rw [h3.1] at hx
        cases hx
       ·simp only [Value.slice.injEq] at h3
        rw [h3.1] at hx
        cases hx
        show _ < gx
        omega
      have HXR : Hid (RowI X8 xa q.p.X ∧ (xa = none → xc = 0) ∧ ∀ x, xa = some x → w.heap.size + 2 < x.block) := ⟨(hOX.row (by have := hqo8.exts.small; omega)).but hbu8 (fun x hx e => by have := hXfar x hx; omega), hXn, hXfar⟩
      have HPK : Hid (∀ D2 a2 c2, ([] : List Int) ++ q.p.dat = D2 → OA8.setIfInBounds 14 (.slice a2 D2.length c2) = pkV (packD (C ++ [q.p])) xa xc a2 c2 ∧ (packD (C ++ [q.p])).X = q.p.X ∧ (C ++ [q.p]).flatMap (·.dat) = D2) := fun D2 a2 c2 h2 => by
       have e1 : (C ++ [q.p]).flatMap (·.dat) = D2 := by rw [← h2, HC0.out]; simp
       refine ⟨?_, by rw [HC0.out]; rfl, e1⟩
       rw [← hOA8, HC0.out, List.nil_append]
       exact first_out q xa xc a2 c2 D2 (by rw [← h2]; rfl)
      have HDD : Hid (C.flatMap (·.dat) = ([] : List Int)) := by show _ = _; rw [HC0.out]; rfl
      clear b0 b1 b2 b3 b4 b5 b6 b7 b8 hX1 hX2 hX3 hX4 hX5 hX7 hX8 hrun bb6 hbu5 hbu8 bel5 hqo5 hq85 m9 m10 m11 m12 m13 m14 z9 z10 z11 z12 z13 z14' n13 hOA0 hOA8 hOX hqo8 hXfar hz HOut HQO Hgb Hg2 hqc hst g8 hC0 ha00
      have hOA := hOA.drew
      have c14 : X8.drew.cell? ⟨w.heap.size + 2, 14, none⟩ = some (.slice none ([] : List Int).length 0) := c14
      have k14 : X8.drew.cell? ⟨wr.heap.size, 14, none⟩ = some (.slice q.da q.p.dat.length q.dc) := (hq8.drew).cell 14 _ rfl
      have hDr := hDr.below (below_drew X8)
      have hQd := hQd.below (below_drew X8)
      refine wp_region_noPanic ?_
      refine wp_region_held_drew (S := fun w'' => w''.cell? ⟨wr.heap.size, 14, none⟩ = some (.slice q.da q.p.dat.length q.dc)) (by kernel_rfl) (by exact k14) (fun hHeld => ?_)
      refine qtk (i := 0) (oi := fpz30o6) (v := (.pointer (some ⟨w.heap.size + 2, 14, none⟩))) hHeld ?_ ?_
      ·intro w9 hSw
       try dsimp only at hSw
       go_simp
      try simp only [qpu]
      refine qtk (i := 3) (oi := fpz30o7) (v := (.pointer (some ⟨wr.heap.size, 14, none⟩))) hHeld ?_ ?_
      ·intro w9 hSw
       try dsimp only at hSw
       go_simp
      try simp only [qpu]
      refine qtk (i := 4) (oi := fpz30o4) (v := (.slice q.da q.p.dat.length q.dc)) hHeld ?_ ?_
      ·intro w9 hSw
       try dsimp only at hSw
       go_simp
      try simp only [qpu]
      refine wpAnyH_ready (rs := [1]) (by kernel_rfl) (by simp) ?_
      refine AllReadyH.cons (o := fpz30o5) rfl (fun K hK => ?_) AllReadyH.nil
      go_simp
      refine hK.out _ _ ?_ (fun hHeld => ?_)
      ·exact k14
      clear hK K
      try simp only [qpu]
      refine wpAnyH_ready (rs := [2]) (by kernel_rfl) (by simp) ?_
      refine AllReadyH.cons (o := fpz30o3) rfl (fun K hK => ?_) AllReadyH.nil
      obtain ⟨a1, c1, Y1, hrun, hO1, bb1⟩ := run_two X8.drew 40 none 0 [] hDr hDn hDl
      refine step_run_app rfl 40 _ _ rfl _ _ (by rfl) (by rfl) _ _ hrun ?_
      clear hrun
      refine hK.out _ _ ?_ (fun hHeld => ?_)
      ·exact kept bb1 k14
      clear hK K
      try simp only [qpu]
      refine wpAnyH_ready (rs := [5]) (by kernel_rfl) (by simp) ?_
      refine AllReadyH.cons (o := fpz30o2) rfl (fun K hK => ?_) AllReadyH.nil
      obtain ⟨a2, c2, Y2, hrun, hO2, hn2, bb2⟩ := run_appB Y1 40 X8.drew.heap.size a1 c1 [] hO1 q.da q.dc q.p.dat (hQd.below bb1) hQn (by omega) bb1.size
      have bb12 := bb1.trans bb2
      have hR2 := hO2.row (by rw [List.length_append]; omega) hDb
      obtain ⟨D2, hD2⟩ : ∃ D2, ([] : List Int) ++ q.p.dat = D2 := ⟨_, rfl⟩
      rw [hD2] at hrun hR2
      have hOA2 := hOA.kept bb12
      have z14 : Y2.cell? ⟨w.heap.size + 2, 14, none⟩ = some (.slice none ([] : List Int).length 0) := kept bb12 c14
      have y14 := kept bb12 k14
      have hfz := hOA2.frozen 14
      refine step_run_app rfl 40 _ _ rfl _ _ (by rfl) (by rfl) _ _ hrun ?_
      clear hrun
      refine hK.out _ _ ?_ (fun hHeld => ?_)
      ·exact y14
      clear hK K
      try simp only [qpu]
      refine qtk (i := 6) (oi := fpz30o1) (v := (.pointer (some ⟨w.heap.size + 2, 14, none⟩))) hHeld ?_ ?_
      ·intro w9 hSw
       try dsimp only at hSw
       go_simp
      try simp only [qpu]
      refine wpAnyH_ready (rs := [7]) (by kernel_rfl) (by simp) ?_
      refine AllReadyH.cons (o := fpz30o0) rfl (fun K hK => ?_) AllReadyH.nil
      go_simp
      refine hK.out _ _ ?_ (fun hHeld => ?_)
      ·exact (set_far (by omega)).trans y14
      clear hK K
      try simp only [qpu]
      refine wpAnyH_done (by kernel_rfl) ?_ _
      refine NoPanic.normal ?_
      clear hHeld
      obtain ⟨Y3, hY3⟩ : ∃ Y3, Y2.setCell ⟨w.heap.size + 2, 14, none⟩ (.slice a2 D2.length c2) = Y3 := ⟨_, rfl⟩
      rw [hY3]
      obtain ⟨eOA, eX, eD⟩ := HPK.out D2 a2 c2 hD2
      obtain ⟨OA3, hOA3⟩ : ∃ x, OA8.setIfInBounds 14 (.slice a2 D2.length c2) = x := ⟨_, rfl⟩
      rw [hOA3] at eOA
      have hbY : But (fun b => b = w.heap.size + 2) Y2 Y3 := by rw [← hY3]; exact (But.refl (fun b => b = w.heap.size + 2) _).setCell _ 14 (.inl rfl) _
      have hsz0 : wr.heap.size < X8.drew.heap.size := hq8.drew.lt
      have hA3 : Blk Y3 (w.heap.size + 2) 42 OA3 := by rw [← hY3, ← hOA3]; exact hOA2.put 14 _
      have hq83 : Blk Y3 wr.heap.size 42 q.v := (hq8.drew.kept bb12).but hbY (by omega)
      have hgb3 : Blk Y3 w.heap.size 79 g.v := (Hgb0.out.drew.kept bb12).but hbY (by omega)
      have hg23 : Blk Y3 (w.heap.size + 1) 42 z15 := (Hg20.out.drew.kept bb12).but hbY (by omega)
      have hX3 : RowI Y3 xa q.p.X := ((HXR.out.1.below (below_drew X8)).below bb12).but hbY (fun x hx e => by have := HXR.out.2.2 x hx; omega)
      have hO2b : ∀ x, a2 = some x → X8.drew.heap.size ≤ x.block := fun x hx => by
       obtain ⟨a', c', e1, _, _, e2, _⟩ := hO2.form
       cases e1
       exact (e2 x hx).1
      have hR3 : Row Y3 a2 D2 := hR2.but hbY (fun x hx e => by have := hO2b x hx; omega)
      have bel3 : Below w.heap.size w Y3 := by rw [← hY3]; exact (bel_tr (bel_tr bel0 (below_drew X8)) bb12).setCell (by simp) _
      have h3s : (Try.prog.info? 42).map (·.size) = some OA3.size := by rw [eOA]; exact info_pk _ _ _ _ _
      have h3z : z15.size = OA3.size := by rw [eOA]; rfl
      have hall : OA3.all (·.oneCell') = true := by rw [eOA]; exact pk_all _ _ _ _ _
      have HO2B : Hid (∀ x, a2 = some x → w.heap.size + 2 < x.block) := fun x hx => by have := hO2b x hx; omega
      have HEE : Hid (OA3 = pkV (packD (C ++ [q.p])) xa xc a2 c2 ∧ (packD (C ++ [q.p])).X = q.p.X ∧ (C ++ [q.p]).flatMap (·.dat) = D2) := ⟨eOA, eX, eD⟩
      have HDL : Hid (([] : List Int) ++ q.p.dat = D2) := hD2
      clear hY3 hOA3 eOA eX eD hD2 bb1 bb2 bb12 hO1 hO2 hO2b hR2 hOA2 z14 y14 hfz hbY hsz0 c14 k14 hDr hQd hOA hq8 bX0 bel0 HPK
      go_wp2_with (refine wpList_load_at rfl _ _ rfl _ 0 (by rfl) _ hq83.at_ Try.underlying42 hsq ?_)
      refine (KE.out _).mono ?_
      rintro e Y4 ⟨rfl, b4⟩
      have hA4 := hA3.kept b4
      have hq84 := hq83.kept b4
      have hgb4 := hgb3.kept b4
      have hg24 := hg23.kept b4
      have hX4 := hX3.below b4
      have hR4 := hR3.below b4
      have bel4 := bel_tr bel3 b4
      have d12 : Y4.cell? ⟨wr.heap.size, 12, none⟩ = some (.bool q.p.mo) := hq84.cell 12 _ rfl
      clear hA3 hq83 hgb3 hg23 hX3 hR3 bel3 b4
      cases hmo : q.p.mo with
      | false =>
       rw [hmo] at d12
       have hfo : follow 65536 (g.ps.map (·.p)) 0 = some (C ++ [q.p]) := by rw [HF2.out, follow_step HNX.out, hmo]; rfl
       have hbR : But (fun b => b = w.heap.size + 1) Y4 (Y4.setRow (w.heap.size + 1) OA3) := (But.refl (fun b => b = w.heap.size + 1) _).setRow _ (.inl rfl) _
       have fin : Hid (P (.returned (.tuple #[.agg OA3, .bool true])) (Y4.setRow (w.heap.size + 1) OA3)) := by
        show P _ _
        have h1 := HP1.out _ hfo (Y4.setRow (w.heap.size + 1) OA3) xa xc a2 c2 (by rw [HEE.out.2.1]; exact hX4.but hbR (fun x hx e => by have := HXR.out.2.2 x hx; omega)) HXR.out.2.1 (by rw [HEE.out.2.2]; exact hR4.but hbR (fun x hx e => by have := HO2B.out x hx; omega)) hn2 (fun x hx => by have := HXR.out.2.2 x hx; omega) (fun x hx => by have := HO2B.out x hx; omega) (below_setRow bel4 (by omega) _)
        rw [← HEE.out.1] at h1
        exact h1
       have hbf : Blk (Y4.setRow (w.heap.size + 1) OA3) (w.heap.size + 1) 42 OA3 := hg24.set OA3
       clear hbR hfo hmo
       go_wp2_with (first
        | (refine wpList_load_at rfl _ _ rfl _ 0 (by rfl) _ hA4.at_ Try.underlying42 h3s ?_)
        | (refine wpList_store_blk rfl 42 _ _ rfl (w.heap.size + 1) OA3 z15 (by rfl) (by rfl) hg24 h3s h3z hall ?_))
       exact ret_cell_tmp (k := 2) (j := 3) Try.f37 (by kernel_rfl) hbf Try.underlying42 h3s (by rfl) (by rfl) rfl fin.out
      | true =>
       rw [hmo] at d12
       have HF3 : Hid (follow 65536 (g.ps.map (·.p)) 0 = (follow (65536 - (C ++ [q.p]).length) (g.ps.map (·.p)) q.p.en).map ((C ++ [q.p]) ++ ·)) := by
        show _ = _
        have e1 : 65536 - (C ++ [q.p]).length = n := by rw [List.length_append]; simp only [List.length_cons, List.length_nil]; omega
        rw [HF2.out, follow_step HNX.out, hmo, e1]
        simp only [if_true, Option.map_map]
        congr 1
        funext x
        simp
       have HL3 : Hid (((C ++ [q.p]).length : Int) ≤ q.p.en ∧ (((C ++ [q.p]).flatMap (·.dat)).length : Int) = q.p.en) := by
        have h1 := HLen.out
        have h2 := HQE.out
        refine ⟨?_, ?_⟩
        ·rw [List.length_append]
         simp only [List.length_cons, List.length_nil]
         omega
        ·rw [HEE.out.2.2, ← HDL.out, List.length_append, ← HDD.out]
         omega
       have HO3 : Hid (OutP Y4 (w.heap.size + 2) (C ++ [q.p]) OA3 a2 c2) := by
        refine ⟨hA4, ?_, by rw [HEE.out.2.2]; exact hR4, hn2, fun h => by simp at h, fun _ => ⟨xa, xc, HEE.out.1, by rw [HEE.out.2.1]; exact hX4, HXR.out.2.1, HXR.out.2.2⟩⟩
        rw [HEE.out.1]
        have e : (packD (C ++ [q.p])).dat = (C ++ [q.p]).flatMap (·.dat) := packD_dat (by simp)
        show some (Value.slice a2 (packD (C ++ [q.p])).dat.length c2) = _
        rw [e]
       have HC3 : Hid ((C ++ [q.p] = [] ∧ q.p.en = 0) ∨ (C ++ [q.p] ≠ [] ∧ 1 ≤ q.p.en)) := .inr ⟨by simp, by have := HQE.out; omega⟩
       have hen : 0 ≤ q.p.en ∧ q.p.en ≤ 65535 ∧ a < q.p.en := by have := HQE.out; omega
       have Hgb4 : Hid (Blk Y4 w.heap.size 79 g.v) := hgb4
       have Hg24 : Hid (Blk Y4 (w.heap.size + 1) 42 z15) := hg24
       clear hmo hA4 hq84 hgb4 hg24 hX4 hR4
       go_wp2_with fail
       refine ⟨⟨q.p.en, C ++ [q.p], OA3, a2, c2, rfl, hen.1, hen.2.1, HC3, HL3, HF3, HO3, Hgb4, Hg24, bel4⟩, by simp [intOf]; omega⟩
     ·have ea : (a == 0) = false := by simp; omega
      obtain ⟨xa, xc, hOAe, hXr, hXn, hXf⟩ := HOut.out.head hCne
      have hOA := HOut.out.blk.kept bX0
      have c14 : X0.cell? ⟨w.heap.size + 2, 14, none⟩ = some (.slice da (C.flatMap (·.dat)).length dc) := hOA.cell 14 _ HOut.out.data
      have hDr := HOut.out.row.below bX0
      have hDn := HOut.out.nil
      have hQd := HQO.out.data.below bX0
      have hQn := HQO.out.dnil
      obtain ⟨D, hD⟩ : ∃ D, C.flatMap (·.dat) = D := ⟨_, rfl⟩
      have HDD : Hid (C.flatMap (·.dat) = D) := hD
      have HXR : Hid (RowI X0 xa (packD C).X ∧ (xa = none → xc = 0) ∧ ∀ x, xa = some x → w.heap.size + 2 < x.block) := ⟨hXr.below bX0, hXn, hXf⟩
      have HPK : Hid (∀ D2 a2 c2, D ++ q.p.dat = D2 → OA.setIfInBounds 14 (.slice a2 D2.length c2) = pkV (packD (C ++ [q.p])) xa xc a2 c2 ∧ (packD (C ++ [q.p])).X = (packD C).X ∧ (C ++ [q.p]).flatMap (·.dat) = D2) := fun D2 a2 c2 h2 => by
       have e1 : (C ++ [q.p]).flatMap (·.dat) = D2 := by rw [← h2, ← hD]; simp
       rw [packD_snoc hCne, hOAe, e1]
       exact ⟨rfl, rfl, rfl⟩
      have HE : Hid (OA.setIfInBounds 14 = fun v => (pkV (packD C) xa xc da dc).setIfInBounds 14 v) := by show _ = _; rw [hOAe]
      have Hgb0 : Hid (Blk X0 w.heap.size 79 g.v) := Hgb.out.kept bX0
      have Hg20 : Hid (Blk X0 (w.heap.size + 1) 42 z15) := Hg2.out.kept bX0
      have bel0 := bel_tr bel bX0
      have hDb : M.Bytes (C.flatMap (·.dat) ++ q.p.dat) := hDr.bytes.app hQd.bytes
      have hDl : (C.flatMap (·.dat)).length ≤ 65535 := by have := HLen.out; omega
      have hQl : q.p.dat.length ≤ 65535 := by have := HQE.out; omega
      rw [hD] at c14 hDr hDb hDl
      have HOE : Hid (OA = pkV (packD C) xa xc da dc) := hOAe
      clear HOut hXr hXn hXf hOAe HE hD HQO Hgb Hg2
      go_wp2_with (first
       | (refine wpList_load_at rfl _ _ rfl pb (po + j * 15) (by rfl) _ hqc Try.underlying42 hsq ?_)
       | (refine wpList_store_new _ _ rfl _ _ _ rfl _ _ rfl rfl hst ?_))
      clear hqc hst g8
      have hOA := hOA.drew
      have c14 : X0.drew.cell? ⟨w.heap.size + 2, 14, none⟩ = some (.slice da D.length dc) := c14
      have k14 : X0.drew.cell? ⟨wr.heap.size, 14, none⟩ = some (.slice q.da q.p.dat.length q.dc) := (hq8.drew).cell 14 _ rfl
      have hDr := hDr.below (below_drew X0)
      have hQd := hQd.below (below_drew X0)
      refine wp_region_noPanic ?_
      refine wp_region_held_drew (S := fun w'' => w''.cell? ⟨wr.heap.size, 14, none⟩ = some (.slice q.da q.p.dat.length q.dc)) (by kernel_rfl) (by exact k14) (fun hHeld => ?_)
      refine qtk (i := 0) (oi := fpz30o6) (v := (.pointer (some ⟨w.heap.size + 2, 14, none⟩))) hHeld ?_ ?_
      ·intro w9 hSw
       try dsimp only at hSw
       go_simp
      try simp only [qpu]
      refine qtk (i := 3) (oi := fpz30o7) (v := (.pointer (some ⟨wr.heap.size, 14, none⟩))) hHeld ?_ ?_
      ·intro w9 hSw
       try dsimp only at hSw
       go_simp
      try simp only [qpu]
      refine qtk (i := 4) (oi := fpz30o4) (v := (.slice q.da q.p.dat.length q.dc)) hHeld ?_ ?_
      ·intro w9 hSw
       try dsimp only at hSw
       go_simp
      try simp only [qpu]
      refine wpAnyH_ready (rs := [1]) (by kernel_rfl) (by simp) ?_
      refine AllReadyH.cons (o := fpz30o5) rfl (fun K hK => ?_) AllReadyH.nil
      go_simp
      refine hK.out _ _ ?_ (fun hHeld => ?_)
      ·exact k14
      clear hK K
      try simp only [qpu]
      refine wpAnyH_ready (rs := [2]) (by kernel_rfl) (by simp) ?_
      refine AllReadyH.cons (o := fpz30o3) rfl (fun K hK => ?_) AllReadyH.nil
      obtain ⟨a1, c1, Y1, hrun, hO1, bb1⟩ := run_two X0.drew 40 da dc D hDr hDn hDl
      refine step_run_app rfl 40 _ _ rfl _ _ (by rfl) (by rfl) _ _ hrun ?_
      clear hrun
      refine hK.out _ _ ?_ (fun hHeld => ?_)
      ·exact kept bb1 k14
      clear hK K
      try simp only [qpu]
      refine wpAnyH_ready (rs := [5]) (by kernel_rfl) (by simp) ?_
      refine AllReadyH.cons (o := fpz30o2) rfl (fun K hK => ?_) AllReadyH.nil
      obtain ⟨a2, c2, Y2, hrun, hO2, hn2, bb2⟩ := run_appB Y1 40 X0.drew.heap.size a1 c1 D hO1 q.da q.dc q.p.dat (hQd.below bb1) hQn (by omega) bb1.size
      have bb12 := bb1.trans bb2
      have hR2 := hO2.row (by rw [List.length_append]; omega) hDb
      obtain ⟨D2, hD2⟩ : ∃ D2, D ++ q.p.dat = D2 := ⟨_, rfl⟩
      rw [hD2] at hrun hR2
      have hOA2 := hOA.kept bb12
      have z14 : Y2.cell? ⟨w.heap.size + 2, 14, none⟩ = some (.slice da D.length dc) := kept bb12 c14
      have y14 := kept bb12 k14
      have hfz := hOA2.frozen 14
      refine step_run_app rfl 40 _ _ rfl _ _ (by rfl) (by rfl) _ _ hrun ?_
      clear hrun
      refine hK.out _ _ ?_ (fun hHeld => ?_)
      ·exact y14
      clear hK K
      try simp only [qpu]
      refine qtk (i := 6) (oi := fpz30o1) (v := (.pointer (some ⟨w.heap.size + 2, 14, none⟩))) hHeld ?_ ?_
      ·intro w9 hSw
       try dsimp only at hSw
       go_simp
      try simp only [qpu]
      refine wpAnyH_ready (rs := [7]) (by kernel_rfl) (by simp) ?_
      refine AllReadyH.cons (o := fpz30o0) rfl (fun K hK => ?_) AllReadyH.nil
      go_simp
      refine hK.out _ _ ?_ (fun hHeld => ?_)
      ·exact (set_far (by omega)).trans y14
      clear hK K
      try simp only [qpu]
      refine wpAnyH_done (by kernel_rfl) ?_ _
      refine NoPanic.normal ?_
      clear hHeld
      obtain ⟨Y3, hY3⟩ : ∃ Y3, Y2.setCell ⟨w.heap.size + 2, 14, none⟩ (.slice a2 D2.length c2) = Y3 := ⟨_, rfl⟩
      rw [hY3]
      obtain ⟨eOA, eX, eD⟩ := HPK.out D2 a2 c2 hD2
      obtain ⟨OA3, hOA3⟩ : ∃ x, OA.setIfInBounds 14 (.slice a2 D2.length c2) = x := ⟨_, rfl⟩
      rw [hOA3] at eOA
      have hbY : But (fun b => b = w.heap.size + 2) Y2 Y3 := by rw [← hY3]; exact (But.refl (fun b => b = w.heap.size + 2) _).setCell _ 14 (.inl rfl) _
      have hsz0 : wr.heap.size < X0.drew.heap.size := hq8.drew.lt
      have hA3 : Blk Y3 (w.heap.size + 2) 42 OA3 := by rw [← hY3, ← hOA3]; exact hOA2.put 14 _
      have hq83 : Blk Y3 wr.heap.size 42 q.v := (hq8.drew.kept bb12).but hbY (by omega)
      have hgb3 : Blk Y3 w.heap.size 79 g.v := (Hgb0.out.drew.kept bb12).but hbY (by omega)
      have hg23 : Blk Y3 (w.heap.size + 1) 42 z15 := (Hg20.out.drew.kept bb12).but hbY (by omega)
      have hX3 : RowI Y3 xa (packD C).X := ((HXR.out.1.below (below_drew X0)).below bb12).but hbY (fun x hx e => by have := HXR.out.2.2 x hx; omega)
      have hO2b : ∀ x, a2 = some x → X0.drew.heap.size ≤ x.block := fun x hx => by
       obtain ⟨a', c', e1, _, _, e2, _⟩ := hO2.form
       cases e1
       exact (e2 x hx).1
      have hR3 : Row Y3 a2 D2 := hR2.but hbY (fun x hx e => by have := hO2b x hx; omega)
      have bel3 : Below w.heap.size w Y3 := by rw [← hY3]; exact (bel_tr (bel_tr bel0 (below_drew X0)) bb12).setCell (by simp) _
      have h3s : (Try.prog.info? 42).map (·.size) = some OA3.size := by rw [eOA]; exact info_pk _ _ _ _ _
      have h3z : z15.size = OA3.size := by rw [eOA]; rfl
      have hall : OA3.all (·.oneCell') = true := by rw [eOA]; exact pk_all _ _ _ _ _
      have HO2B : Hid (∀ x, a2 = some x → w.heap.size + 2 < x.block) := fun x hx => by have := hO2b x hx; omega
      have HEE : Hid (OA3 = pkV (packD (C ++ [q.p])) xa xc a2 c2 ∧ (packD (C ++ [q.p])).X = (packD C).X ∧ (C ++ [q.p]).flatMap (·.dat) = D2) := ⟨eOA, eX, eD⟩
      have HDL : Hid (D ++ q.p.dat = D2) := hD2
      clear hY3 hOA3 eOA eX eD hD2 bb1 bb2 bb12 hO1 hO2 hO2b hR2 hOA2 z14 y14 hfz hbY hsz0 c14 k14 hDr hQd hOA hq8 bX0 bel0 HPK
      go_wp2_with (refine wpList_load_at rfl _ _ rfl _ 0 (by rfl) _ hq83.at_ Try.underlying42 hsq ?_)
      refine (KE.out _).mono ?_
      rintro e Y4 ⟨rfl, b4⟩
      have hA4 := hA3.kept b4
      have hq84 := hq83.kept b4
      have hgb4 := hgb3.kept b4
      have hg24 := hg23.kept b4
      have hX4 := hX3.below b4
      have hR4 := hR3.below b4
      have bel4 := bel_tr bel3 b4
      have d12 : Y4.cell? ⟨wr.heap.size, 12, none⟩ = some (.bool q.p.mo) := hq84.cell 12 _ rfl
      clear hA3 hq83 hgb3 hg23 hX3 hR3 bel3 b4
      cases hmo : q.p.mo with
      | false =>
       rw [hmo] at d12
       have hfo : follow 65536 (g.ps.map (·.p)) 0 = some (C ++ [q.p]) := by rw [HF2.out, follow_step HNX.out, hmo]; rfl
       have hbR : But (fun b => b = w.heap.size + 1) Y4 (Y4.setRow (w.heap.size + 1) OA3) := (But.refl (fun b => b = w.heap.size + 1) _).setRow _ (.inl rfl) _
       have fin : Hid (P (.returned (.tuple #[.agg OA3, .bool true])) (Y4.setRow (w.heap.size + 1) OA3)) := by
        show P _ _
        have h1 := HP1.out _ hfo (Y4.setRow (w.heap.size + 1) OA3) xa xc a2 c2 (by rw [HEE.out.2.1]; exact hX4.but hbR (fun x hx e => by have := HXR.out.2.2 x hx; omega)) HXR.out.2.1 (by rw [HEE.out.2.2]; exact hR4.but hbR (fun x hx e => by have := HO2B.out x hx; omega)) hn2 (fun x hx => by have := HXR.out.2.2 x hx; omega) (fun x hx => by have := HO2B.out x hx; omega) (below_setRow bel4 (by omega) _)
        rw [← HEE.out.1] at h1
        exact h1
       have hbf : Blk (Y4.setRow (w.heap.size + 1) OA3) (w.heap.size + 1) 42 OA3 := hg24.set OA3
       clear hbR hfo hmo
       go_wp2_with (first
        | (refine wpList_load_at rfl _ _ rfl _ 0 (by rfl) _ hA4.at_ Try.underlying42 h3s ?_)
        | (refine wpList_store_blk rfl 42 _ _ rfl (w.heap.size + 1) OA3 z15 (by rfl) (by rfl) hg24 h3s h3z hall ?_))
       exact ret_cell_tmp (k := 2) (j := 3) Try.f37 (by kernel_rfl) hbf Try.underlying42 h3s (by rfl) (by rfl) rfl fin.out
      | true =>
       rw [hmo] at d12
       have HF3 : Hid (follow 65536 (g.ps.map (·.p)) 0 = (follow (65536 - (C ++ [q.p]).length) (g.ps.map (·.p)) q.p.en).map ((C ++ [q.p]) ++ ·)) := by
        show _ = _
        have e1 : 65536 - (C ++ [q.p]).length = n := by rw [List.length_append]; simp only [List.length_cons, List.length_nil]; omega
        rw [HF2.out, follow_step HNX.out, hmo, e1]
        simp only [if_true, Option.map_map]
        congr 1
        funext x
        simp
       have HL3 : Hid (((C ++ [q.p]).length : Int) ≤ q.p.en ∧ (((C ++ [q.p]).flatMap (·.dat)).length : Int) = q.p.en) := by
        have h1 := HLen.out
        have h2 := HQE.out
        refine ⟨?_, ?_⟩
        ·rw [List.length_append]
         simp only [List.length_cons, List.length_nil]
         omega
        ·rw [HEE.out.2.2, ← HDL.out, List.length_append, ← HDD.out]
         omega
       have HO3 : Hid (OutP Y4 (w.heap.size + 2) (C ++ [q.p]) OA3 a2 c2) := by
        refine ⟨hA4, ?_, by rw [HEE.out.2.2]; exact hR4, hn2, fun h => by simp at h, fun _ => ⟨xa, xc, HEE.out.1, by rw [HEE.out.2.1]; exact hX4, HXR.out.2.1, HXR.out.2.2⟩⟩
        rw [HEE.out.1]
        have e : (packD (C ++ [q.p])).dat = (C ++ [q.p]).flatMap (·.dat) := packD_dat (by simp)
        show some (Value.slice a2 (packD (C ++ [q.p])).dat.length c2) = _
        rw [e]
       have HC3 : Hid ((C ++ [q.p] = [] ∧ q.p.en = 0) ∨ (C ++ [q.p] ≠ [] ∧ 1 ≤ q.p.en)) := .inr ⟨by simp, by have := HQE.out; omega⟩
       have hen : 0 ≤ q.p.en ∧ q.p.en ≤ 65535 ∧ a < q.p.en := by have := HQE.out; omega
       have Hgb4 : Hid (Blk Y4 w.heap.size 79 g.v) := hgb4
       have Hg24 : Hid (Blk Y4 (w.heap.size + 1) 42 z15) := hg24
       clear hmo hA4 hq84 hgb4 hg24 hX4 hR4
       go_wp2_with fail
       refine ⟨⟨q.p.en, C ++ [q.p], OA3, a2, c2, rfl, hen.1, hen.2.1, HC3, HL3, HF3, HO3, Hgb4, Hg24, bel4⟩, by simp [intOf]; omega⟩
end Go.Proofs.Ytkeeidfpgfdldaa
