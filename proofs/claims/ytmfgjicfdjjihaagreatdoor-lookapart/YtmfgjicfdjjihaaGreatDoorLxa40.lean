/- Texts joined: LkH LkI -/
import Derived.Test.YtmfgjicfdjjihaaGreatDoorLxa36
import Derived.Test.YtmfgjicfdjjihaaGreatDoorLxa39
namespace Go.Proofs.YtmfgjicfdjjihaaGreatDoor
open Go.RowKit
set_option linter.unusedVariables false
set_option linter.unusedSimpArgs false
/-- All is as it was but one block. -/
structure Upd (g : Nat) (w w' : World) : Prop where
 os : w'.os = w.os
 tape : w'.tape = w.tape
 output : w'.output = w.output
 size : w.heap.size ≤ w'.heap.size
 block : ∀ k, k < w.heap.size → k ≠ g → w'.heap[k]? = w.heap[k]?
theorem Upd.of_below {g : Nat} {w w' : World} (h : Below w.heap.size w w') : Upd g w w' := ⟨h.os, h.tape, h.output, h.size, fun k hk _ => h.block k hk⟩
theorem Upd.trans {g : Nat} {a b c : World} (h : Upd g a b) (k : Upd g b c) : Upd g a c :=
 ⟨k.os.trans h.os, k.tape.trans h.tape, k.output.trans h.output, Nat.le_trans h.size k.size, fun i hi hn => (k.block i (Nat.lt_of_lt_of_le hi h.size) hn).trans (h.block i hi hn)⟩
theorem Upd.setRow (g : Nat) (w : World) (cs : Array Value) : Upd g w (w.setRow g cs) :=
 ⟨rfl, rfl, rfl, by rw [setRow_size]; exact Nat.le_refl _, fun k _ hn => setRow_heap_ne w g k cs hn⟩
theorem Below.upd {g : Nat} {a w w' : World} (h : Below a.heap.size a w) (u : Upd g w w') (hg : a.heap.size ≤ g) : Below a.heap.size a w' :=
 ⟨u.os.trans h.os, u.tape.trans h.tape, u.output.trans h.output, Nat.le_trans h.size u.size, fun k hk => (u.block k (Nat.lt_of_lt_of_le hk h.size) (by omega)).trans (h.block k hk)⟩
theorem Blk.upd {g k : Nat} {t : TypeId} {cs : Array Value} {w w' : World} (h : Blk w k t cs) (u : Upd g w w') (hn : k ≠ g) : Blk w' k t cs := (u.block k h.lt hn).trans h
theorem Upd.tc {g : Nat} {t : TypeId} {cs : Array Value} {w w' : World} (u : Upd g w w') (h : Blk w g t cs) : Tc (· == t) w w' :=
 ⟨u.size, fun k ck tk fz hk hne => u.block k (Array.getElem?_eq_some_iff.1 hk).1 (fun e => by
  subst e
  have h' : w.heap[k]? = some (.cells cs t (0, 0)) := h
  rw [h'] at hk
  simp only [Option.some.injEq, Obj.cells.injEq] at hk
  rw [hk.2.1] at hne
  simp at hne)⟩
theorem TO.own.tc {T : TypeId → Bool} {w w' : World} {B : Nat} {l : List Rl} {o : TO} (h : TO.own w B l o) (hT : Tc T w w') (h0 : T 63 = false) (h1 : T 86 = false) (h2 : T 3 = false) (h3 : T 24 = false) (h4 : T 60 = false) : TO.own w' B l o :=
 ⟨h.d.tc hT h0 h1 h2 h3, h.x.tc hT h4 h2 h3, ownsRow_tc h.f hT h2, h.is⟩
/-- What a holder's block holds. -/
abbrev hv (o : TO) (n : Int) : Array Value := #[.bool true, .slice o.da 7 o.dc, .slice o.xa 6 o.xc, .slice o.fa o.F.length o.fc, .int .i64 n]
theorem TO.own.upd {w w' : World} {B g : Nat} {l : List Rl} {o : TO} {cs : Array Value} (h : TO.own w B l o) (u : Upd g w w') (hb : Blk w g 66 cs) : TO.own w' B l o := h.tc (u.tc hb) (by rfl) (by rfl) (by rfl) (by rfl) (by rfl)
set_option maxRecDepth 100000 in
set_option maxHeartbeats 4000000 in
theorem isMade_lk (g : Nat) (b : Bool) (w : World) (hc : w.cell? ⟨g, 0, none⟩ = some (.bool b)) :
  Calls Tryz.prog 47 #[.pointer (some ⟨g, 0, none⟩)] w fun e w' => e = .returned (.bool b) ∧ Below w.heap.size w w' := by
 go_enter Tryz.func47, Tryz.ntmps47
 go_wp2
 go_ret
 exact ⟨rfl, Below.refl _ _⟩
set_option maxRecDepth 100000 in
set_option maxHeartbeats 4000000 in
theorem isMade_nil (w : World) :
  Calls Tryz.prog 47 #[.pointer none] w fun e w' => e = .returned (.bool false) ∧ Below w.heap.size w w' := by
 go_enter Tryz.func47, Tryz.ntmps47
 go_wp2
 go_ret
 exact ⟨rfl, Below.refl _ _⟩
theorem errT_nil {b : Int} (h1 : 13 ≤ b) (h2 : b ≤ 4096) : errT [] (errC [] 0) b = 0 := by
 unfold errT
 rw [if_pos ⟨by omega, h2⟩, if_neg (by simp [errC]), cost_nil, if_neg (by omega)]
/-- What was compiled, in memory of its own. -/
theorem comp_own {l : List Rl} {B : Nat} {e : Ending} {w : World} (h : CompGot l 0 B e w) : ∃ o : TO, e = .returned (.tuple #[.agg o.v, .int .i64 0]) ∧ TO.own w B l o := by
 rcases h with ⟨h0, _⟩ | ⟨_, da, dc, D, xa, xc, X, fa, fc, F, rfl, hD, hX, hF, hT⟩
 ·exact absurd rfl h0
 ·exact ⟨⟨da, dc, D, xa, xc, X, fa, fc, F⟩, rfl, hD, hX, hF, hT⟩
set_option maxRecDepth 100000 in
set_option maxHeartbeats 8000000 in
theorem new_lk (w : World) (hT : Top w) (hDb : Deb w) (hSd : Sds w) :
  Calls Tryz.prog 17 #[] w fun e w' => ∃ (g : Nat) (o : TO), e = .returned (.pointer (some ⟨g, 0, none⟩)) ∧ Blk w' g 66 (hv o 0) ∧ TO.own w' w.heap.size [] o ∧ w.heap.size ≤ g ∧ Below w.heap.size w w' := by
 have K1 : Hid (Calls Tryz.prog 14 #[.slice none 0 0, .int .i64 4096] w fun e w' => ∃ da dc D xa xc X fa fc F fn, List.length F = fn ∧ e = .returned (.tuple #[.agg #[.slice da 7 dc, .slice xa 6 xc, .slice fa fn fc], .int .i64 0]) ∧ TO.own w' w.heap.size [] ⟨da, dc, D, xa, xc, X, fa, fc, F⟩ ∧ Below w.heap.size w w') := by
  refine (compile_any none 0 [] 4096 w hT hDb hSd ⟨fun q hq => (by cases hq), fun i q hq => (by simp at hq)⟩).mono ?_
  rintro e w' ⟨h, hb⟩
  rw [errT_nil (by omega) (by omega)] at h
  obtain ⟨⟨da, dc, D, xa, xc, X, fa, fc, F⟩, h1, h2⟩ := comp_own h
  exact ⟨da, dc, D, xa, xc, X, fa, fc, F, _, rfl, h1, h2, hb⟩
 clear hT hDb hSd
 go_enter Tryz.func17, Tryz.ntmps17
 go_wp2_with fail
 refine Calls.mono K1.out ?_
 rintro e W2 ⟨da, dc, D, xa, xc, X, fa, fc, F, fn, hfn, rfl, ho, b2⟩
 have HOW : Hid (TO.own W2 w.heap.size [] ⟨da, dc, D, xa, xc, X, fa, fc, F⟩) := ho
 have HFN : Hid (F.length = fn) := hfn
 obtain ⟨W3, hW3⟩ : ∃ W3, W2.alloc (.cells #[.slice da 7 dc, .slice xa 6 xc, .slice fa fn fc] 26) = W3 := ⟨_, rfl⟩
 have q3 := bel_nw hW3
 have at3 := (blk_nw hW3).at_
 have hst : (Tryz.prog.info? 26).map (·.size) = some 3 := by kernel_rfl
 obtain ⟨W4, hW4⟩ : ∃ W4, W3.alloc (.cells #[.bool true, .slice da 7 dc, .slice xa 6 xc, .slice fa fn fc, .int .i64 0] 66) = W4 := ⟨_, rfl⟩
 have q4 := bel_al q3 hW4
 have b4 := bel_tr b2 q4
 have HB4 : Hid (Blk W4 W3.heap.size 66 #[.bool true, .slice da 7 dc, .slice xa 6 xc, .slice fa fn fc, .int .i64 0]) := blk_nw hW4
 have HO4 : Hid (TO.own W4 w.heap.size [] ⟨da, dc, D, xa, xc, X, fa, fc, F⟩) := HOW.out.below q4
 have hge : w.heap.size ≤ W3.heap.size := (bel_tr b2 q3).size
 have HGE : Hid (w.heap.size ≤ W3.heap.size) := hge
 clear K1 ho hfn hge
 go_wp2_with (first | (refine wpList_load_at rfl _ _ rfl W2.heap.size 0 (by rfl) _ at3 Tryz.underlying26 hst ?_))
 go_ret
 refine ⟨W3.heap.size, ⟨da, dc, D, xa, xc, X, fa, fc, F⟩, rfl, ?_, HO4.out, HGE.out, b4⟩
 show Blk W4 W3.heap.size 66 #[.bool true, .slice da 7 dc, .slice xa 6 xc, .slice fa F.length fc, .int .i64 0]
 rw [HFN.out]
 exact HB4.out
set_option maxRecDepth 100000 in
set_option maxHeartbeats 8000000 in
theorem turns_lk (g : Nat) (o : TO) (n : Int) (w : World) (hb : Blk w g 66 (hv o n)) :
  Calls Tryz.prog 21 #[.pointer (some ⟨g, 0, none⟩)] w fun e w' => e = .returned (.int .i64 n) ∧ Below w.heap.size w w' := by
 have K1 : Hid _ := isMade_lk g true w (hb.cell 0 _ rfl)
 have HB : Hid (Blk w g 66 (hv o n)) := hb
 clear hb
 go_enter Tryz.func21, Tryz.ntmps21
 go_wp2_with fail
 refine Calls.mono K1.out ?_
 rintro e W2 ⟨rfl, b2⟩
 have c4 := (HB.out.kept b2).cell 4 (.int .i64 n) rfl
 go_wp2
 go_ret
 exact ⟨rfl, b2⟩
theorem hold_at {w : World} {g : Nat} {a b c d e : Value} (h : Blk w g 66 #[a, b, c, d, e]) : CellsAt w g 1 #[b, c, d] :=
 ⟨h.lt, fun j v hj => by
  match j, hj with
  | 0, hj => exact h.cell 1 v hj
  | 1, hj => exact h.cell 2 v hj
  | 2, hj => exact h.cell 3 v hj⟩
set_option maxRecDepth 100000 in
set_option maxHeartbeats 8000000 in
theorem hfind_lk (g : Nat) (o : TO) (n : Int) (k : Ky) (l : List Rl) (B : Nat) (w : World) (hb : Blk w g 66 (hv o n)) (ho : TO.own w B l o) (hl : l.length ≤ 64) (hc : costN l 6 ≤ 4096) (hL : Lks w) (ko : k.ok) :
  Calls Tryz.prog 20 #[.pointer (some ⟨g, 0, none⟩), .agg k.v] w fun e w' => e = .returned (.tuple #[.int .i64 (findA o.tr.D o.tr.X o.tr.F k).1, .int .i64 (findA o.tr.D o.tr.X o.tr.F k).2]) ∧ Below w.heap.size w w' := by
 obtain ⟨t1, t2⟩ := tab_bounds ho.is hl hc
 have KF : Hid (∀ W, Below w.heap.size w W → Calls Tryz.prog 31 #[.agg o.v, .agg k.v] W fun e w' => e = .returned (.tuple #[.int .i64 (findA o.tr.D o.tr.X o.tr.F k).1, .int .i64 (findA o.tr.D o.tr.X o.tr.F k).2]) ∧ Below W.heap.size W w') := fun W h => by
  rw [← ho.val]
  exact find_lk o.tr k W ((ho.below h).ok hl hc) (tabR_of ho.is hl) (hL.below h) t1 ko
 obtain ⟨R, hR⟩ : ∃ R, findA o.tr.D o.tr.X o.tr.F k = R := ⟨_, rfl⟩
 rw [hR] at KF ⊢
 obtain ⟨da, dc, D, xa, xc, X, fa, fc, F⟩ := o
 have HB : Hid (Blk w g 66 #[.bool true, .slice da 7 dc, .slice xa 6 xc, .slice fa F.length fc, .int .i64 n]) := hb
 have KF' : Hid (∀ W, Below w.heap.size w W → Calls Tryz.prog 31 #[.agg #[.slice da 7 dc, .slice xa 6 xc, .slice fa F.length fc], .agg k.v] W fun e w' => e = .returned (.tuple #[.int .i64 R.1, .int .i64 R.2]) ∧ Below W.heap.size W w') := KF.out
 obtain ⟨fn, hfn⟩ : ∃ fn, F.length = fn := ⟨_, rfl⟩
 rw [hfn] at HB KF'
 obtain ⟨KV, hKV⟩ : ∃ KV, k.v = KV := ⟨_, rfl⟩
 have hsk : (Tryz.prog.info? 33).map (·.size) = some KV.size := by rw [← hKV]; show _ = some 11; kernel_rfl
 rw [hKV] at KF' ⊢
 have hst : (Tryz.prog.info? 26).map (·.size) = some 3 := by kernel_rfl
 obtain ⟨W1, hW1⟩ : ∃ W1, w.alloc (.cells KV 33) = W1 := ⟨_, rfl⟩
 have b1 := bel_nw hW1
 have HBK : Hid (Blk W1 w.heap.size 33 KV) := blk_nw hW1
 have K1 : Hid _ := isMade_lk g true W1 ((HB.out.kept b1).cell 0 _ rfl)
 clear KF hb ho hl hc hL ko t1 t2 hR hfn hKV
 go_enter Tryz.func20, Tryz.ntmps20
 go_wp2_with fail
 refine Calls.mono K1.out ?_
 rintro e W2 ⟨rfl, q2⟩
 have b2 := bel_tr b1 q2
 have HB2 : Hid (Blk W2 g 66 #[.bool true, .slice da 7 dc, .slice xa 6 xc, .slice fa fn fc, .int .i64 n]) := HB.out.kept b2
 have HK2 : Hid (Blk W2 w.heap.size 33 KV) := HBK.out.kept q2
 clear K1 hW1
 go_wp2_with fail
 have hBc := below_drew W2
 refine wp_region_noPanic ?_
 refine wp_region_held_drew (S := fun w'' => Below W2.heap.size W2 w'') (by kernel_rfl) hBc (fun hHeld => ?_)
 refine qtk (i := 0) (oi := { dst := some 9, op := Op.move (.tmp 0), type := 48, pos := "holder.go:65", after := #[], guard := none }) (v := (.pointer (some ⟨g, 0, none⟩))) hHeld ?_ ?_
 ·intro w9 hSw
  try dsimp only at hSw
  go_simp
 try simp only [qpu]
 refine qtk (i := 1) (oi := { dst := some 10, op := Op.nilCheck (.tmp 9), type := 0, pos := "holder.go:65", after := #[{ on := 0, ground := Ground.data }], guard := none }) (v := (.pointer (some ⟨g, 0, none⟩))) hHeld ?_ ?_
 ·intro w9 hSw
  try dsimp only at hSw
  go_simp
 try simp only [qpu]
 refine qtk (i := 2) (oi := { dst := some 11, op := Op.fieldAddr 66 (.tmp 10) 1, type := 0, pos := "holder.go:65", after := #[{ on := 1, ground := Ground.data }], guard := none }) (v := (.pointer (some ⟨g, 1, none⟩))) hHeld ?_ ?_
 ·intro w9 hSw
  try dsimp only at hSw
  go_simp
 try simp only [qpu]
 refine qty (i := 3) (oi := { dst := some 12, op := Op.load 26 (.tmp 11), type := 26, pos := "holder.go:65", after := #[{ on := 2, ground := Ground.data }], guard := none }) (v := (.agg #[.slice da 7 dc, .slice xa 6 xc, .slice fa fn fc])) (yieldsIf_at (by rfl) _ _ rfl g 1 (by rfl) _ (fun _ h => hold_at (HB2.out.kept h)) Tryz.underlying26 hst) hHeld ?_
 try simp only [qpu]
 refine qty (i := 4) (oi := { dst := some 13, op := Op.load 33 (.tmp 3), type := 33, pos := "holder.go:65", after := #[], guard := none }) (v := (.agg KV)) (yieldsIf_at (by rfl) _ _ rfl w.heap.size 0 (by rfl) _ (fun _ h => (HK2.out.kept h).at_) Tryz.underlying33 hsk) hHeld ?_
 try simp only [qpu]
 refine wpAnyH_ready (rs := [5]) (by kernel_rfl) (by simp) ?_
 refine AllReadyH.cons (o := { dst := some 14, op := Op.call { callee := Callee.value (.func 31), args := #[.tmp 12, .tmp 13], argTypes := #[26, 33] }, type := 35, pos := "holder.go:65", after := #[{ on := 3, ground := Ground.data }, { on := 4, ground := Ground.data }], guard := none }) rfl (fun K hK => ?_) AllReadyH.nil
 go_simp
 refine Calls.mono (KF'.out _ (bel_tr b2 hBc)) ?_
 rintro e W4 ⟨rfl, q4⟩
 have q24 := bel_tr hBc q4
 refine hK.out _ _ q24 (fun hHeld => ?_)
 clear hK K q4
 try simp only [qpu]
 refine qtk (i := 6) (oi := { dst := some 15, op := Op.extract (.tmp 14) 0, type := 3, pos := "holder.go:65", after := #[{ on := 5, ground := Ground.data }], guard := none }) (v := (.int .i64 R.1)) hHeld ?_ ?_
 ·intro w9 hSw
  try dsimp only at hSw
  go_simp
 try simp only [qpu]
 refine qtk (i := 7) (oi := { dst := some 16, op := Op.extract (.tmp 14) 1, type := 34, pos := "holder.go:65", after := #[{ on := 5, ground := Ground.data }], guard := none }) (v := (.int .i64 R.2)) hHeld ?_ ?_
 ·intro w9 hSw
  try dsimp only at hSw
  go_simp
 try simp only [qpu]
 refine qtk (i := 8) (oi := { dst := some 4, op := Op.assign (.tmp 15), type := 3, pos := "holder.go:65", after := #[{ on := 6, ground := Ground.data }, { on := 5, ground := Ground.chain }, { on := 0, ground := Ground.phase }, { on := 1, ground := Ground.phase }, { on := 2, ground := Ground.phase }, { on := 3, ground := Ground.phase }, { on := 4, ground := Ground.phase }, { on := 5, ground := Ground.phase }, { on := 6, ground := Ground.phase }, { on := 7, ground := Ground.phase }], guard := none }) (v := (.int .i64 R.1)) hHeld ?_ ?_
 ·intro w9 hSw
  try dsimp only at hSw
  go_simp
 try simp only [qpu]
 refine qtk (i := 9) (oi := { dst := some 5, op := Op.assign (.tmp 16), type := 34, pos := "holder.go:65", after := #[{ on := 7, ground := Ground.data }, { on := 8, ground := Ground.chain }, { on := 0, ground := Ground.phase }, { on := 1, ground := Ground.phase }, { on := 2, ground := Ground.phase }, { on := 3, ground := Ground.phase }, { on := 4, ground := Ground.phase }, { on := 5, ground := Ground.phase }, { on := 6, ground := Ground.phase }, { on := 7, ground := Ground.phase }, { on := 8, ground := Ground.phase }], guard := none }) (v := (.int .i64 R.2)) hHeld ?_ ?_
 ·intro w9 hSw
  try dsimp only at hSw
  go_simp
 try simp only [qpu]
 refine wpAnyH_done (by kernel_rfl) ?_ _
 refine NoPanic.normal ?_
 have b4 := bel_tr b2 q24
 go_wp2
 exact bodyPost_ret (results_tmp2 Tryz.results20 _ _ _) rfl ⟨rfl, b4⟩
set_option maxRecDepth 100000 in
set_option maxHeartbeats 16000000 in
/-- Tables that were compiled are taken. -/
theorem swap_yes (g : Nat) (o : TO) (n : Nat) (hn : n < 4611686018427387904) (l : List Rl) (u : TO) (B : Nat) (w : World) (hb : Blk w g 66 (hv o (n : Int))) (hu : TO.own w B l u) (hl : l.length ≤ 64) (hc : costN l 6 ≤ 4096) (hL : Lks w) :
  Calls Tryz.prog 19 #[.pointer (some ⟨g, 0, none⟩), .agg u.v] w fun e w' => e = .returned (.int .i64 0) ∧ Upd g w w' ∧ ∃ o' : TO, Blk w' g 66 (hv o' ((n + 1 : Nat) : Int)) ∧ TO.own w' w.heap.size l o' := by
 obtain ⟨t1, t2⟩ := tab_bounds hu.is hl hc
 have HGW : Hid (g < w.heap.size) := hb.lt
 have KC : Hid (∀ W, Below w.heap.size w W → Calls Tryz.prog 9 #[.agg u.v] W fun e w' => e = .returned (.bool true) ∧ Below W.heap.size W w') := fun W h => by
  rw [← hu.val]
  refine (check_lk u.tr W ((hu.below h).ok hl hc) (hL.below h) t1 t2).mono ?_
  rintro e w' ⟨⟨r, rfl, hr⟩, hb⟩
  have := hr.2 (tabR_of hu.is hl)
  subst this
  exact ⟨rfl, hb⟩
 have KP : Hid (∀ W, Below w.heap.size w W → Calls Tryz.prog 48 #[.agg u.v] W fun e w' => ∃ da dc D xa xc X fa fc F fn, List.length F = fn ∧ e = .returned (.agg #[.slice da 7 dc, .slice xa 6 xc, .slice fa fn fc]) ∧ TO.own w' w.heap.size l ⟨da, dc, D, xa, xc, X, fa, fc, F⟩ ∧ Below W.heap.size W w') := fun W h => by
  refine (copy_lk l u B W (hu.below h) hl hc).mono ?_
  rintro e w' ⟨⟨da, dc, D, xa, xc, X, fa, fc, F⟩, h1, h2, h3⟩
  exact ⟨da, dc, D, xa, xc, X, fa, fc, F, _, rfl, h1, h2.base h.size, h3⟩
 have hst : (Tryz.prog.info? 26).map (·.size) = some u.v.size := by show _ = some 3; kernel_rfl
 obtain ⟨TV, hTV⟩ : ∃ TV, u.v = TV := ⟨_, rfl⟩
 rw [hTV] at KC KP hst ⊢
 obtain ⟨da, dc, D, xa, xc, X, fa, fc, F⟩ := o
 have HB : Hid (Blk w g 66 #[.bool true, .slice da 7 dc, .slice xa 6 xc, .slice fa F.length fc, .int .i64 (n : Int)]) := hb
 generalize F.length = fn at HB
 obtain ⟨W1, hW1⟩ : ∃ W1, w.alloc (.cells TV 26) = W1 := ⟨_, rfl⟩
 have b1 := bel_nw hW1
 have HBT : Hid (Blk W1 w.heap.size 26 TV) := blk_nw hW1
 have K1 : Hid _ := isMade_lk g true W1 ((HB.out.kept b1).cell 0 _ rfl)
 have hw1 : IntKind.i64.wrap ((n : Int) + 1) = ((n + 1 : Nat) : Int) := by rw [IntKind.wrap_i64]; omega
 clear hb hu hl hc hL t1 t2 hTV
 go_enter Tryz.func19, Tryz.ntmps19
 go_wp2_with fail
 refine Calls.mono K1.out ?_
 rintro e W2 ⟨rfl, q2⟩
 have b2 := bel_tr b1 q2
 have at2 := (HBT.out.kept q2).at_
 have K2 : Hid _ := KC.out W2 b2
 clear K1 hW1
 go_wp2_with (first | (refine wpList_load_at rfl _ _ rfl w.heap.size 0 (by rfl) _ at2 Tryz.underlying26 hst ?_))
 refine Calls.mono K2.out ?_
 rintro e W3 ⟨rfl, q3⟩
 have b3 := bel_tr b2 q3
 have at3 := (HBT.out.kept (bel_tr q2 q3)).at_
 have K3 : Hid _ := KP.out W3 b3
 clear K2 at2
 go_wp2_with (first | (refine wpList_load_at rfl _ _ rfl w.heap.size 0 (by rfl) _ at3 Tryz.underlying26 hst ?_))
 refine Calls.mono K3.out ?_
 rintro e W4 ⟨ea, ec, E, ya, yc, Y, ga, gc, G, gn, hgn, rfl, ho', q4⟩
 have b4 := bel_tr b3 q4
 have HOW : Hid (TO.own W4 w.heap.size l ⟨ea, ec, E, ya, yc, Y, ga, gc, G⟩) := ho'
 have HGN : Hid (G.length = gn) := hgn
 have hB4 : Blk W4 g 66 #[.bool true, .slice da 7 dc, .slice xa 6 xc, .slice fa fn fc, .int .i64 (n : Int)] := HB.out.kept b4
 have HB4 : Hid (Blk W4 g 66 #[.bool true, .slice da 7 dc, .slice xa 6 xc, .slice fa fn fc, .int .i64 (n : Int)]) := hB4
 obtain ⟨W5, hW5⟩ : ∃ W5, W4.setRow g #[.bool true, .slice ea 7 ec, .slice ya 6 yc, .slice ga gn gc, .int .i64 (n : Int)] = W5 := ⟨_, rfl⟩
 have hB5 : Blk W5 g 66 #[.bool true, .slice ea 7 ec, .slice ya 6 yc, .slice ga gn gc, .int .i64 (n : Int)] := by rw [← hW5]; exact hB4.set _
 have u5 : Upd g W4 W5 := by rw [← hW5]; exact Upd.setRow _ _ _
 have HB5 : Hid (Blk W5 g 66 #[.bool true, .slice ea 7 ec, .slice ya 6 yc, .slice ga gn gc, .int .i64 (n : Int)]) := hB5
 have HU5 : Hid (Upd g W4 W5) := u5
 have hs3 : (Tryz.prog.info? 26).map (·.size) = some 3 := by kernel_rfl
 clear K3 at3 ho' hgn hB5 u5
 go_wp2_with (refine wpList_store_off rfl 26 _ _ rfl g 1 66 #[.slice ea 7 ec, .slice ya 6 yc, .slice ga gn gc] #[.bool true, .slice da 7 dc, .slice xa 6 xc, .slice fa fn fc, .int .i64 (n : Int)] #[.bool true, .slice ea 7 ec, .slice ya 6 yc, .slice ga gn gc, .int .i64 (n : Int)] (by rfl) (by rfl) hB4 hs3 (by simp) (by kernel_rfl) (by rfl) ?_; rw [hW5]; clear hB4 hW5; have c4 := HB5.out.cell 4 (.int .i64 (n : Int)) rfl; have f4 := HB5.out.frozen 4)
 have HB6 : Hid (Blk (W5.setCell ⟨g, 4, none⟩ (.int .i64 ((n + 1 : Nat) : Int))) g 66 #[.bool true, .slice ea 7 ec, .slice ya 6 yc, .slice ga gn gc, .int .i64 ((n + 1 : Nat) : Int)]) := HB5.out.put 4 (.int .i64 ((n + 1 : Nat) : Int))
 have u6 : Upd g W5 (W5.setCell ⟨g, 4, none⟩ (.int .i64 ((n + 1 : Nat) : Int))) := by
  rw [setCell_eq_setRow W5 g 4 _ 66 (0, 0) _ HB5.out]
  exact Upd.setRow _ _ _
 go_ret
 refine ⟨rfl, (Upd.of_below b4).trans (HU5.out.trans u6), ⟨ea, ec, E, ya, yc, Y, ga, gc, G⟩, ?_, (HOW.out.upd HU5.out HB4.out).upd u6 HB5.out⟩
 show Blk _ g 66 #[.bool true, .slice ea 7 ec, .slice ya 6 yc, .slice ga G.length gc, .int .i64 ((n + 1 : Nat) : Int)]
 rw [HGN.out]
 exact HB6.out
def wideK (p : Int) : Rl := ⟨-1, -1, ⟨0, 0, 0⟩, 0, ⟨0, 0, 0⟩, 0, p, 0, 65535, 0, 65535, 0, 0⟩
abbrev wideKV (p : Int) : Array Value := #[.int .i64 (-1), .int .i64 (-1), .int .i64 0, .int .u64 0, .int .u64 0, .int .i64 0, .int .i64 0, .int .u64 0, .int .u64 0, .int .i64 0, .int .i64 p, .int .i64 0, .int .i64 65535, .int .i64 0, .int .i64 65535, .int .i64 0, .int .i64 0]
theorem wideK_ok (p : Int) : (wideK p).ok := ⟨ad0_ok, ad0_ok⟩
set_option maxRecDepth 100000 in
set_option maxHeartbeats 4000000 in
theorem wideK_any (p : Int) (w : World) : Calls Tryz.prog 29 #[.int .i64 p] w fun e w' => e = .returned (.agg (wideKV p)) ∧ Below w.heap.size w w' := by
 have hst : (Instr.storeAt 82 (.pointer (some ⟨w.heap.size, 0, none⟩)) (.agg (wideKV p))).run Tryz.prog (w.alloc (.cells z17 82)) = .ok () (w.alloc (.cells (wideKV p) 82)) := store_rl w (wideK p)
 go_enter Tryz.func29, Tryz.ntmps29
 go_wp2_with (first | (refine wpList_store_new _ _ rfl _ _ _ rfl _ _ rfl rfl hst ?_))
 exact ret_cell (k := 2) Tryz.f29 (by kernel_rfl) (blk_new w (wideKV p) 82) Tryz.underlying82 (by kernel_rfl) (by rfl) rfl ⟨rfl, bel_nw rfl⟩
def someK : Ky := ⟨0, 0, ⟨4, 0, 1⟩, ⟨4, 0, 2⟩, 17, 0, 0⟩
abbrev someKV : Array Value := #[.int .i64 0, .int .i64 0, .int .i64 4, .int .u64 0, .int .u64 1, .int .i64 4, .int .u64 0, .int .u64 2, .int .i64 17, .int .i64 0, .int .i64 0]
theorem someK_ok : someK.ok := by
 refine ⟨?_, ?_⟩ <;> exact ⟨by simp only [someK]; omega, by simp only [someK]; omega, by simp only [someK]; omega⟩
abbrev z11 : Array Value := #[.int .i64 0, .int .i64 0, .int .i64 0, .int .u64 0, .int .u64 0, .int .i64 0, .int .u64 0, .int .u64 0, .int .i64 0, .int .i64 0, .int .i64 0]
set_option maxRecDepth 100000 in
set_option maxHeartbeats 4000000 in
theorem someK_any (w : World) : Calls Tryz.prog 30 #[] w fun e w' => e = .returned (.agg someKV) ∧ Below w.heap.size w w' := by
 have hst : (Instr.storeAt 33 (.pointer (some ⟨w.heap.size, 0, none⟩)) (.agg someKV)).run Tryz.prog (w.alloc (.cells z11 33)) = .ok () (w.alloc (.cells someKV 33)) := run_storeAt_new (P := Tryz.prog) w 33 z11 _ (by kernel_rfl) rfl (by kernel_rfl)
 go_enter Tryz.func30, Tryz.ntmps30
 go_wp2_with (first | (refine wpList_store_new _ _ rfl _ _ _ rfl _ _ rfl rfl hst ?_))
 exact ret_cell (k := 0) Tryz.f30 (by kernel_rfl) (blk_new w someKV 33) Tryz.underlying33 (by kernel_rfl) (by rfl) rfl ⟨rfl, bel_nw rfl⟩
abbrev alK : List Rl := [wideK 6, wideK 0]
theorem alK_err : errT alK (errC alK 0) 1000 = 0 := by kernel_rfl
theorem alK_first : firstN (ofB alK (·.takes someK)) = 1 := by kernel_rfl
theorem someK_right : someK.right = true := by kernel_rfl
/-- What is found in tables that were compiled. -/
theorem findA_of {l : List Rl} {w : World} {B : Nat} {o : TO} {k : Ky} (h : TO.own w B l o) (hl : l.length ≤ 64) (hr : ∀ r ∈ l, r.ok ∧ r.right = true) (ko : k.ok) : findA o.tr.D o.tr.X o.tr.F k = if k.right = true then (firstN (ofB l (·.takes k)), 0) else (0, 1) := by
 show findA (List.map ChM.r o.D) (List.map CrM.r o.X) o.F k = _
 by_cases hk : k.right = true
 ·rw [if_pos hk, findA_yes (tabR_of h.is hl) hk]
  congr 1
  exact findT_of h.is hr ko hk
 ·rw [if_neg hk, findA_no (fun hh => hk hh.2)]
set_option maxRecDepth 100000 in
set_option maxHeartbeats 16000000 in
theorem alive_lk (w : World) (hT : Top w) (hDb : Deb w) (hSd : Sds w) (hL : Lks w) : Calls Tryz.prog 11 #[] w fun e w' => e = .returned (.bool true) ∧ Below w.heap.size w w' := by
 have HALL : Hid (Top w ∧ Deb w ∧ Sds w ∧ Lks w) := ⟨hT, hDb, hSd, hL⟩
 obtain ⟨g1, g2, g3, g4, g5⟩ := errT_ok alK_err
 have HL64 : Hid (alK.length ≤ 64 ∧ costN alK 6 ≤ 4096) := ⟨g2, g5⟩
 have HRR : Hid (∀ r ∈ alK, r.ok ∧ r.right = true) := fun r hr => by
  obtain ⟨_, _, _, _, h⟩ := err_ok g1
  refine ⟨?_, h r hr⟩
  simp only [List.mem_cons, List.not_mem_nil, or_false] at hr
  rcases hr with rfl | rfl
  ·exact wideK_ok _
  ·exact wideK_ok _
 have K1 : Hid (∀ p W, Calls Tryz.prog 29 #[.int .i64 p] W fun e w' => e = .returned (.agg (wideKV p)) ∧ Below W.heap.size W w') := wideK_any
 have K2 : Hid (∀ W, Calls Tryz.prog 30 #[] W fun e w' => e = .returned (.agg someKV) ∧ Below W.heap.size W w') := someK_any
 have KN : Hid (∀ W, Below w.heap.size w W → Calls Tryz.prog 17 #[] W fun e w' => ∃ (g : Nat) (o : TO), e = .returned (.pointer (some ⟨g, 0, none⟩)) ∧ Blk w' g 66 (hv o 0) ∧ TO.own w' W.heap.size [] o ∧ W.heap.size ≤ g ∧ Below W.heap.size W w') := fun W h => new_lk W (HALL.out.1.below h) (HALL.out.2.1.below h) (HALL.out.2.2.1.below h)
 clear hT hDb hSd hL g1 g2 g3 g4 g5
 have K1a : Hid _ := K1.out 6 w
 go_enter Tryz.func11, Tryz.ntmps11
 go_wp2_with fail
 refine Calls.mono K1a.out ?_
 rintro e W1 ⟨rfl, b1⟩
 have K1b : Hid _ := K1.out 0 W1
 clear K1a
 go_wp2_with fail
 refine Calls.mono K1b.out ?_
 rintro e W2 ⟨rfl, q2⟩
 have b2 := bel_tr b1 q2
 obtain ⟨W3, hW3⟩ : ∃ W3, W2.alloc (.cells (wideKV 6 ++ wideKV 0) 82) = W3 := ⟨_, rfl⟩
 have hW3' : W2.alloc (.cells #[.int .i64 (-1), .int .i64 (-1), .int .i64 0, .int .u64 0, .int .u64 0, .int .i64 0, .int .i64 0, .int .u64 0, .int .u64 0, .int .i64 0, .int .i64 6, .int .i64 0, .int .i64 65535, .int .i64 0, .int .i64 65535, .int .i64 0, .int .i64 0, .int .i64 (-1), .int .i64 (-1), .int .i64 0, .int .u64 0, .int .u64 0, .int .i64 0, .int .i64 0, .int .u64 0, .int .u64 0, .int .i64 0, .int .i64 0, .int .i64 0, .int .i64 65535, .int .i64 0, .int .i64 65535, .int .i64 0, .int .i64 0] 82) = W3 := hW3
 have b3 := bel_al b2 hW3
 have hrow : RowR W3 (some ⟨W2.heap.size, 0, none⟩) alK := row2L W2 W3 (wideK 6) (wideK 0) _ 82 rfl hW3 (wideK_ok _) (wideK_ok _)
 have K3 : Hid (Calls Tryz.prog 18 #[.slice (some ⟨W2.heap.size, 0, none⟩) 2 2, .int .i64 1000] W3 fun e w' => ∃ da dc D xa xc X fa fc F fn, List.length F = fn ∧ e = .returned (.tuple #[.agg #[.slice da 7 dc, .slice xa 6 xc, .slice fa fn fc], .int .i64 0]) ∧ TO.own w' W3.heap.size alK ⟨da, dc, D, xa, xc, X, fa, fc, F⟩ ∧ Below W3.heap.size W3 w') := by
  refine (rcompile_any (some ⟨W2.heap.size, 0, none⟩) 2 alK 1000 W3 hrow).mono ?_
  rintro e w' ⟨h, hb⟩
  rw [alK_err] at h
  obtain ⟨⟨da, dc, D, xa, xc, X, fa, fc, F⟩, h1, h2⟩ := comp_own h
  exact ⟨da, dc, D, xa, xc, X, fa, fc, F, _, rfl, h1, h2, hb⟩
 clear K1b hrow hW3 K1 q2
 go_wp2_with fail
 refine Calls.mono K3.out ?_
 rintro e W4 ⟨da, dc, D, xa, xc, X, fa, fc, F, fn, hfn, rfl, ho, q4⟩
 have b4 := bel_tr b3 q4
 have HOW : Hid (TO.own W4 W3.heap.size alK ⟨da, dc, D, xa, xc, X, fa, fc, F⟩) := ho
 obtain ⟨W5, hW5⟩ : ∃ W5, W4.alloc (.cells #[.slice da 7 dc, .slice xa 6 xc, .slice fa fn fc] 26) = W5 := ⟨_, rfl⟩
 have q5 := bel_nw hW5
 have b5 := bel_tr b4 q5
 have HB5 : Hid (Blk W5 W4.heap.size 26 #[.slice da 7 dc, .slice xa 6 xc, .slice fa fn fc]) := blk_nw hW5
 have HO5 : Hid (TO.own W5 W3.heap.size alK ⟨da, dc, D, xa, xc, X, fa, fc, F⟩) := HOW.out.below q5
 have HVV : Hid ((⟨da, dc, D, xa, xc, X, fa, fc, F⟩ : TO).v = #[.slice da 7 dc, .slice xa 6 xc, .slice fa fn fc]) := by rw [← hfn]; exact rfl
 have hst : (Tryz.prog.info? 26).map (·.size) = some 3 := by kernel_rfl
 have KF : Hid (∀ W, Below W5.heap.size W5 W → Calls Tryz.prog 12 #[.agg #[.slice da 7 dc, .slice xa 6 xc, .slice fa fn fc], .agg someKV] W fun e w' => e = .returned (.tuple #[.int .i64 1, .int .i64 0]) ∧ Below W.heap.size W w') := fun W h => by
  obtain ⟨t1, t2⟩ := tab_bounds HO5.out.is HL64.out.1 HL64.out.2
  have := lookup_lk (TO.tr ⟨da, dc, D, xa, xc, X, fa, fc, F⟩) someK W ((HO5.out.below h).ok HL64.out.1 HL64.out.2) (HALL.out.2.2.2.below (bel_tr b5 h)) t1 t2 someK_ok
  rw [findA_of HO5.out HL64.out.1 HRR.out someK_ok, if_pos someK_right, alK_first, HO5.out.val, HVV.out] at this
  exact this
 clear K3 ho hfn HOW b1 b2 b3 q4 hW3'
 go_wp2_with fail
 have hBc := below_drew W5
 refine wp_region_noPanic ?_
 refine wp_region_held_drew (S := fun w'' => Below W5.heap.size W5 w'') (by kernel_rfl) hBc (fun hHeld => ?_)
 refine qty (i := 0) (oi := { dst := some 16, op := Op.load 26 (.tmp 1), type := 26, pos := "law.go:26", after := #[], guard := none }) (v := (.agg #[.slice da 7 dc, .slice xa 6 xc, .slice fa fn fc])) (yieldsIf_at (by rfl) _ _ rfl W4.heap.size 0 (by rfl) _ (fun _ h => (HB5.out.kept h).at_) Tryz.underlying26 hst) hHeld ?_
 try simp only [qpu]
 refine wpAnyH_ready (rs := [1]) (by kernel_rfl) (by simp) ?_
 refine AllReadyH.cons (o := { dst := some 17, op := Op.call { callee := Callee.value (.func 30), args := #[], argTypes := #[] }, type := 33, pos := "law.go:26", after := #[], guard := none }) rfl (fun K hK => ?_) AllReadyH.nil
 go_simp
 refine Calls.mono (K2.out _) ?_
 rintro e W6 ⟨rfl, q6⟩
 replace hBc := bel_tr hBc q6
 refine hK.out _ _ hBc (fun hHeld => ?_)
 clear hK K q6
 try simp only [qpu]
 refine wpAnyH_ready (rs := [2]) (by kernel_rfl) (by simp) ?_
 refine AllReadyH.cons (o := { dst := some 18, op := Op.call { callee := Callee.value (.func 12), args := #[.tmp 16, .tmp 17], argTypes := #[26, 33] }, type := 35, pos := "law.go:26", after := #[{ on := 0, ground := Ground.data }, { on := 1, ground := Ground.data }, { on := 1, ground := Ground.chain }], guard := none }) rfl (fun K hK => ?_) AllReadyH.nil
 go_simp
 refine Calls.mono (KF.out _ hBc) ?_
 rintro e W7 ⟨rfl, q7⟩
 replace hBc := bel_tr hBc q7
 refine hK.out _ _ hBc (fun hHeld => ?_)
 clear hK K q7
 try simp only [qpu]
 refine qtk (i := 3) (oi := { dst := some 15, op := Op.move (.tmp 18), type := 35, pos := "law.go:26", after := #[{ on := 2, ground := Ground.data }], guard := none }) (v := (.tuple #[.int .i64 1, .int .i64 0])) hHeld ?_ ?_
 ·intro w9 hSw
  try dsimp only at hSw
  go_simp
 try simp only [qpu]
 refine qtk (i := 4) (oi := { dst := some 19, op := Op.extract (.tmp 15) 0, type := 3, pos := "law.go:26", after := #[{ on := 3, ground := Ground.data }], guard := none }) (v := (.int .i64 1)) hHeld ?_ ?_
 ·intro w9 hSw
  try dsimp only at hSw
  go_simp
 try simp only [qpu]
 refine qtk (i := 5) (oi := { dst := some 20, op := Op.extract (.tmp 15) 1, type := 34, pos := "law.go:26", after := #[{ on := 3, ground := Ground.data }, { on := 6, ground := Ground.gcOnly Departure.lateStores }], guard := none }) (v := (.int .i64 0)) hHeld ?_ ?_
 ·intro w9 hSw
  try dsimp only at hSw
  go_simp
 try simp only [qpu]
 refine qtk (i := 6) (oi := { dst := some 3, op := Op.assign (.tmp 19), type := 3, pos := "law.go:26", after := #[{ on := 4, ground := Ground.data }, { on := 2, ground := Ground.chain }, { on := 0, ground := Ground.phase }, { on := 1, ground := Ground.phase }, { on := 2, ground := Ground.phase }, { on := 3, ground := Ground.phase }, { on := 4, ground := Ground.phase }, { on := 5, ground := Ground.textOnly Departure.lateStores }], guard := none }) (v := (.int .i64 1)) hHeld ?_ ?_
 ·intro w9 hSw
  try dsimp only at hSw
  go_simp
 try simp only [qpu]
 refine qtk (i := 7) (oi := { dst := some 4, op := Op.assign (.tmp 20), type := 34, pos := "law.go:26", after := #[{ on := 5, ground := Ground.data }, { on := 6, ground := Ground.chain }, { on := 0, ground := Ground.phase }, { on := 1, ground := Ground.phase }, { on := 2, ground := Ground.phase }, { on := 3, ground := Ground.phase }, { on := 4, ground := Ground.phase }, { on := 5, ground := Ground.phase }, { on := 6, ground := Ground.phase }], guard := none }) (v := (.int .i64 0)) hHeld ?_ ?_
 ·intro w9 hSw
  try dsimp only at hSw
  go_simp
 try simp only [qpu]
 refine wpAnyH_done (by kernel_rfl) ?_ _
 refine NoPanic.normal ?_
 have b6 := bel_tr b5 hBc
 have K4 : Hid _ := KN.out W7 b6
 clear hW5 KF q5
 go_wp2_with fail
 refine Calls.mono K4.out ?_
 rintro e W8 ⟨g, oh, rfl, hbh, hoh, hg, q8⟩
 have HBH : Hid (Blk W8 g 66 (hv oh 0)) := hbh
 have HOH : Hid (TO.own W8 W7.heap.size [] oh) := hoh
 have HG : Hid (W7.heap.size ≤ g) := hg
 have b8 := bel_tr b6 q8
 have h58 := bel_tr hBc q8
 have K5 : Hid _ := K2.out W8
 clear K4 hbh hoh hg KN
 go_wp2_with fail
 refine Calls.mono K5.out ?_
 rintro e W9 ⟨rfl, q9⟩
 have b9 := bel_tr b8 q9
 have K6 : Hid (Calls Tryz.prog 20 #[.pointer (some ⟨g, 0, none⟩), .agg someKV] W9 fun e w' => e = .returned (.tuple #[.int .i64 (-1), .int .i64 0]) ∧ Below W9.heap.size W9 w') := by
  have := hfind_lk g oh 0 someK [] W7.heap.size W9 (HBH.out.kept q9) (HOH.out.below q9) (by simp) (by rw [cost_nil]; omega) (HALL.out.2.2.2.below b9) someK_ok
  rw [findA_of HOH.out (by simp) (fun r hr => by cases hr) someK_ok, if_pos someK_right] at this
  exact this
 clear K5
 go_wp2_with fail
 refine Calls.mono K6.out ?_
 rintro e WA ⟨rfl, qA⟩
 have q8A := bel_tr q9 qA
 have bA := bel_tr b8 q8A
 have hBA := bel_tr h58 q8A
 have HBA : Hid (Blk WA g 66 (hv oh 0)) := HBH.out.kept q8A
 have HOA : Hid (TO.own WA W3.heap.size alK ⟨da, dc, D, xa, xc, X, fa, fc, F⟩) := HO5.out.below hBA
 have atA := (HB5.out.kept hBA).at_
 have KW : Hid (Calls Tryz.prog 19 #[.pointer (some ⟨g, 0, none⟩), .agg #[.slice da 7 dc, .slice xa 6 xc, .slice fa fn fc]] WA fun e w' => e = .returned (.int .i64 0) ∧ Upd g WA w' ∧ ∃ o' : TO, Blk w' g 66 (hv o' 1) ∧ TO.own w' WA.heap.size alK o') := by
  have := swap_yes g oh 0 (by omega) alK ⟨da, dc, D, xa, xc, X, fa, fc, F⟩ W3.heap.size WA HBA.out HOA.out HL64.out.1 HL64.out.2 (HALL.out.2.2.2.below bA)
  rw [HVV.out] at this
  exact this
 clear K6 q9 qA b9
 go_wp2_with (first | (refine wpList_load_at_w (by rfl) _ _ rfl W4.heap.size 0 (by rfl) _ atA Tryz.underlying26 hst ?_))
 refine Calls.mono KW.out ?_
 rintro e WB ⟨rfl, uB, o', hB', hO'⟩
 have hgw : w.heap.size ≤ g := Nat.le_trans b6.size HG.out
 have bB := Below.upd bA uB hgw
 have KT : Hid _ := turns_lk g o' 1 WB hB'
 clear KW atA uB hO' hB'
 go_wp2_with fail
 refine Calls.mono KT.out ?_
 rintro e WC ⟨rfl, qC⟩
 have bC := bel_tr bB qC
 go_wp2
 go_ret
 exact ⟨rfl, bC⟩
end Go.Proofs.YtmfgjicfdjjihaaGreatDoor
