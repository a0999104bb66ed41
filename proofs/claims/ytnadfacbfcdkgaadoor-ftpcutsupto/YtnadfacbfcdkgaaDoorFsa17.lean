/- Texts joined: FtD -/
import Derived.Test.YtnadfacbfcdkgaaDoorFsa16
namespace Go.Proofs.YtnadfacbfcdkgaaDoor
open Go.RowKit
set_option linter.unusedVariables false
set_option linter.unusedSimpArgs false
abbrev Ad.va (a : Ad) : Array Value := #[.int .i64 a.fam, .int .u64 a.hi, .int .u64 a.lo]
abbrev ad0 : Ad := ⟨0, 0, 0⟩
theorem fld5_len {L : List (List UInt8)} (h : L.length ≠ 5) : fld5 L = ([], [], []) := by
  match L with
  | [] => rfl
  | [_] => rfl
  | [_, _] => rfl
  | [_, _, _] => rfl
  | [_, _, _, _] => rfl
  | [_, _, _, _, _] => simp at h
  | _ :: _ :: _ :: _ :: _ :: _ :: _ => rfl
theorem fld5_split (d : UInt8) (l : List UInt8) : fld5 (Lib.splitK [d] 0 (min 6 (l.length + 1) - 1) l) = fld5 (spl d l) := by
  have hl := spl_len d l
  by_cases h : (spl d l).length ≤ (min 6 (l.length + 1) - 1) + 1
  · rw [splitK_spl d _ l h]
  · have := (splitK_long d (min 6 (l.length + 1) - 1) l (by omega)).1
    rw [fld5_len (by omega), fld5_len (by omega)]
theorem ba_eta (x : ByteArray) : (⟨x.data.toList.toArray⟩ : ByteArray) = x := by cases x; simp
set_option maxRecDepth 100000 in
set_option maxHeartbeats 2000000 in
theorem fields_l (l : List UInt8) (m : Int) (w : World) (hl : l.length < 4294967281) (hm : Mx m w) :
    Calls Tryd.prog 43 #[.string ⟨l.toArray⟩] w fun e w' => e = .returned (.tuple #[.string ⟨(fldF l).1.toArray⟩, .string ⟨(fldF l).2.1.toArray⟩, .string ⟨(fldF l).2.2.toArray⟩]) ∧ Below w.heap.size w w' := by
  cases l with
  | nil =>
    go_enter Tryd.func43, Tryd.ntmps43
    go_wp2
    go_ret3
    exact ⟨rfl, Below.refl _ _⟩
  | cons d t =>
    obtain ⟨s, hs⟩ : ∃ s : ByteArray, (⟨(d :: t).toArray⟩ : ByteArray) = s := ⟨_, rfl⟩
    have hsz : s.size = (d :: t).length := by rw [← hs]; show (d :: t).toArray.size = _; simp
    have hpos : 0 < s.size := by rw [hsz]; simp
    have hd0 : s[0]'hpos = d := by subst hs; rfl
    have hix : ∀ W, (Instr.index 9 (.string s) (.int .i64 0)).run Tryd.prog W = .ok (.int .u8 (d.toNat : Int)) W := fun W => by
      rw [run_index_string (P := Tryd.prog) W 9 s .i64 0 (by kernel_rfl), dif_pos (by omega)]
      simp only [Int.toNat_zero, hd0]
    have hne : s.toList.isEmpty = false := by
      rw [← hs, ByteArray.toList_eq]; rfl
    have hsl : ∀ W, (Instr.slice 9 (.string s) none (some (.int .i64 1)) none).run Tryd.prog W = .ok (.string (ByteArray.mk #[d])) W := fun W => by
      rw [run_slice_string_to_if (P := Tryd.prog) W 9 s .i64 1 (by kernel_rfl), if_pos ⟨by omega, by omega⟩]
      congr 2
      rw [← hs, ByteArray.extract_mk]
      rfl
    rw [hs]
    obtain ⟨N, hN⟩ : ∃ N, d.toNat = N := ⟨_, rfl⟩
    rw [hN] at hix
    have KM : Hid (∀ W, Calls Tryd.prog 50 #[.int .u8 N] W fun e w' => e = .returned (.bool (mayD d)) ∧ w' = W) := fun W => mayBeD_ft d N hN W
    rw [fldF_cons]
    cases hmd : mayD d with
    | false =>
      rw [hmd] at KM
      rw [if_neg (by decide)]
      clear hs hsz hd0
      go_enter Tryd.func43, Tryd.ntmps43
      go_wp2_with fail
      refine Calls.mono (KM.out _) ?_
      rintro e W ⟨rfl, rfl⟩
      go_wp2
      go_ret3
      exact ⟨rfl, Below.refl _ _⟩
    | true =>
      rw [hmd] at KM
      rw [if_pos rfl, ← fld5_split d (d :: t)]
      obtain ⟨ws, hws⟩ : ∃ ws, Lib.splitB (ByteArray.mk #[d]) 0 (min 6 (s.size + 1) - 1) s = ws := ⟨_, rfl⟩
      have hK : Lib.splitK [d] 0 (min 6 ((d :: t).length + 1) - 1) (d :: t) = ws.map (·.data.toList) := by
        have e2 := Lib.splitB_data (ByteArray.mk #[d]) 0 (min 6 (s.size + 1) - 1) s
        rw [hws] at e2
        rw [e2, hsz, ← hs]
      rw [hK]
      have hsp := fun w hm => Tryd.strings_SplitN s (ByteArray.mk #[d]) 6 m w (by rw [hsz]; exact hl) hm (by show 1 ≤ (#[d] : Array UInt8).size; simp) (by decide) (by decide)
      rw [hws] at hsp
      have hmx := hm.h
      clear hK hws hs hsz hd0
      generalize hNN : min 6 (s.size + 1) = NN at hsp
      have bb : Below w.heap.size w (w.alloc (.cells (Lib.cellsOf ws NN) 9)) := (Below.refl _ _).alloc (Nat.le_refl _) _
      have hcells : ∀ (j : Nat) (hj : j < ws.length), (w.alloc (.cells (Lib.cellsOf ws NN) 9)).cell? ⟨w.heap.size, j, none⟩ = some (.string (ws[j]'hj)) := fun j hj => cells_words w ws NN _ j hj
      obtain ⟨W1, hW1⟩ : ∃ W1, w.alloc (.cells (Lib.cellsOf ws NN) 9) = W1 := ⟨_, rfl⟩
      rw [hW1] at hcells bb
      have K : Hid (Calls Tryd.prog 39 #[.string s, .string (ByteArray.mk #[d]), .int .i64 6] w fun e w' => e = .returned (.slice (some ⟨w.heap.size, 0, none⟩) ws.length NN) ∧ w' = W1) := (hsp w hmx).mono fun e w' h => ⟨h.1, h.2.trans hW1⟩
      clear hsp hNN hmx hW1
      by_cases h5 : ws.length = 5
      · match ws, h5 with
        | [x0, n, h, p, e], _ =>
          have c1 := hcells 1 (by simp)
          have c2 := hcells 2 (by simp)
          have c3 := hcells 3 (by simp)
          have c4 := hcells 4 (by simp)
          simp only [List.getElem_cons_succ, List.getElem_cons_zero] at c1 c2 c3 c4
          rw [show ([x0, n, h, p, e] : List ByteArray).map (·.data.toList) = [x0.data.toList, n.data.toList, h.data.toList, p.data.toList, e.data.toList] from rfl, fld5_mk]
          have K5 : Hid (Calls Tryd.prog 39 #[.string s, .string (ByteArray.mk #[d]), .int .i64 6] w fun e w' => e = .returned (.slice (some ⟨w.heap.size, 0, none⟩) 5 NN) ∧ w' = W1) := K
          clear K hcells
          by_cases he : e.size = 0
          · have e0 : e = ByteArray.empty := empty_of_size he
            subst e0
            rw [if_pos (by rfl)]
            simp only [ba_eta]
            go_enter Tryd.func43, Tryd.ntmps43
            go_wp2_with fail
            refine Calls.mono (KM.out _) ?_
            rintro e W ⟨rfl, rfl⟩
            go_wp2_with fail
            refine Calls.mono K5.out ?_
            rintro e W ⟨rfl, rfl⟩
            go_wp2
            go_quiet (fail)
            all_goals go_wp2
            all_goals go_ret3
            all_goals exact ⟨rfl, below_drewN bb _⟩
          · have e1 := nonempty_list he
            have e2 : ¬ e.data.toList = [] := fun h => he (by have : e.data.toList.length = e.size := Array.length_toList; rw [h] at this; simp at this; omega)
            rw [if_neg e2]
            go_enter Tryd.func43, Tryd.ntmps43
            go_wp2_with fail
            refine Calls.mono (KM.out _) ?_
            rintro e W ⟨rfl, rfl⟩
            go_wp2_with fail
            refine Calls.mono K5.out ?_
            rintro e W ⟨rfl, rfl⟩
            go_wp2
            go_ret3
            exact ⟨rfl, bb⟩
      · rw [fld5_len (by simpa using h5)]
        have h5b : ¬ ((ws.length : Int) = 5) := by omega
        clear hcells h5
        go_enter Tryd.func43, Tryd.ntmps43
        go_wp2_with fail
        refine Calls.mono (KM.out _) ?_
        rintro e W ⟨rfl, rfl⟩
        go_wp2_with fail
        refine Calls.mono K.out ?_
        rintro e W ⟨rfl, rfl⟩
        go_wp2
        go_ret3
        exact ⟨rfl, bb⟩
/-- Two bytes that lie in a block. -/
structure B45 (g : Nat) (x y : Int) (w : World) : Prop where
  c4 : w.cell? ⟨g, 4, none⟩ = some (.int .u8 x)
  c5 : w.cell? ⟨g, 5, none⟩ = some (.int .u8 y)
theorem B45.lt {g : Nat} {x y : Int} {w : World} (h : B45 g x y w) : g < w.heap.size := World.block_lt_of_cell? w _ h.c4
theorem B45.kept {g : Nat} {x y : Int} {w w' : World} (h : B45 g x y w) (hb : Below w.heap.size w w') : B45 g x y w' := ⟨Go.Proofs.YtnadfacbfcdkgaaDoor.kept hb h.c4, Go.Proofs.YtnadfacbfcdkgaaDoor.kept hb h.c5⟩
theorem B45.al {g : Nat} {x y : Int} {w w' : World} {o : Obj} (h : B45 g x y w) (e : w.alloc o = w') : B45 g x y w' := h.kept (bel_nw e)
theorem B45.drew {g : Nat} {x y : Int} {w : World} (h : B45 g x y w) : B45 g x y w.drew := ⟨h.c4, h.c5⟩
theorem B45.other {k : Nat} {x y : Int} {w : World} (h : B45 k x y w) {g : Nat} (hn : k ≠ g) (cs : Array Value) : B45 k x y (w.setRow g cs) :=
  ⟨((But.refl (fun k => k = g) w).setRow g (.inl rfl) cs).cell hn h.c4, ((But.refl (fun k => k = g) w).setRow g (.inl rfl) cs).cell hn h.c5⟩
theorem getD_at (r : List Int) (n : Nat) (h : n < r.length) : r.getD n 0 = r[n] := by rw [List.getD_eq_getElem?_getD, List.getElem?_eq_getElem h]; rfl
theorem shl_ft (x : Int) (hx : 0 ≤ x ∧ x ≤ 255) (W : World) : (Go.binOp .shl 3 (.int .i64 x) (.int .u64 8)).run Tryd.prog W = Result.ok (.int .i64 (x * 256)) W := by
  have e : IntKind.i64.wrap (x * 256) = x * 256 := wraps_i64 _ (by omega) (by omega)
  simp [go_sem, e]
theorem or_ft (x y : Int) (hx : 0 ≤ x ∧ x ≤ 255) (hy : 0 ≤ y ∧ y ≤ 255) (W : World) : (Go.binOp .or 3 (.int .i64 (x * 256)) (.int .i64 y)).run Tryd.prog W = Result.ok (.int .i64 (x * 256 + y)) W := by
  have e : bits .or .i64 (x * 256) y = x * 256 + y := bits_join .i64 63 (by decide) wraps_i64 8 (x * 256) y (by omega) (by omega) (by omega) (by omega) (by omega) (by omega)
  simp [go_sem, e]
set_option maxRecDepth 100000 in
set_option maxHeartbeats 4000000 in
theorem six_l (l : List UInt8) (m : Int) (w : World) (hl : l.length < 4294967281) (hm : Mx m w) :
    Calls Tryd.prog 30 #[.string ⟨l.toArray⟩] w fun e w' => e = .returned (askV (sixF l)) ∧ Below w.heap.size w w' := by
  obtain ⟨i0, hi, hz0, hz1, hz2⟩ := info_parts info_u8
  obtain ⟨T, hT⟩ : ∃ T, (if (spl 44 l).length = 6 then qsGo (spl 44 l) [] else none) = T := ⟨_, rfl⟩
  rw [six_eq, hT]
  obtain ⟨s, hs⟩ : ∃ s : ByteArray, (⟨l.toArray⟩ : ByteArray) = s := ⟨_, rfl⟩
  have hsz : s.size = l.length := by rw [← hs]; show l.toArray.size = _; simp
  have hsd : s.data.toList = l := by rw [← hs]
  obtain ⟨ws, hws⟩ : ∃ ws, Lib.splitB (ByteArray.mk #[44]) 0 (min 7 (s.size + 1) - 1) s = ws := ⟨_, rfl⟩
  have hsm : ∀ x ∈ ws, x.size < 4294967281 := fun x hx => by have := split_sizes _ _ _ x (hws ▸ hx); omega
  have HT : Hid ((if ws.length = 6 then qsGo (ws.map (·.data.toList)) [] else none) = T) := by
    show _ = _
    have e2 := Lib.splitB_data (ByteArray.mk #[44]) 0 (min 7 (s.size + 1) - 1) s
    rw [hws] at e2
    rw [← hT, ← spl_six, ← hsz]
    show _ = if (Lib.splitK (ByteArray.mk #[44]).data.toList 0 _ _).length = 6 then qsGo (Lib.splitK (ByteArray.mk #[44]).data.toList 0 _ _) [] else none
    rw [← hsd, ← e2, List.length_map]
  rw [hs]
  obtain ⟨W0, hW0⟩ : ∃ W, w.alloc (.cells #[.int .i64 0, .int .i64 0, .int .u64 0, .int .u64 0, .int .i64 0] 32) = W := ⟨_, rfl⟩
  have b0 := bel_nw hW0
  have A0 : Blk W0 w.heap.size 32 as0.v := blk_nw hW0
  have hsp := Tryd.strings_SplitN s (ByteArray.mk #[44]) 7 m W0 (by omega) (hm.al hW0).h (by decide) (by decide) (by decide)
  rw [hws] at hsp
  generalize hN : min 7 (s.size + 1) = N at hsp
  obtain ⟨W1, hW1⟩ : ∃ W, W0.alloc (.cells (Lib.cellsOf ws N) 9) = W := ⟨_, rfl⟩
  rw [hW1] at hsp
  have b1 := bel_al b0 hW1
  have A1 := A0.al hW1
  have hcs : ∀ (j : Nat) (hj : j < ws.length), W1.cell? ⟨W0.heap.size, j, none⟩ = some (.string (ws[j]'hj)) := fun j hj => hW1 ▸ cells_words W0 ws N _ j hj
  have z0 : w.heap.size < W0.heap.size := by rw [← hW0]; simp
  have z1 : W0.heap.size < W1.heap.size := by rw [← hW1]; simp
  have KS : Hid (Calls Tryd.prog 39 #[.string s, .string (ByteArray.mk #[44]), .int .i64 7] W0 fun e w' => e = .returned (.slice (some ⟨W0.heap.size, 0, none⟩) ws.length N) ∧ w' = W1) := hsp
  clear hT hws hsp hN hs hsz hsd hm
  by_cases h6 : ws.length = 6
  · rw [if_pos h6] at HT
    have L6 : Hid (ws.length = 6) := h6
    clear h6
    have h6a : ¬ ((ws.length : Int) != 6) = true := by simp [L6.out]
    have h6b : ((ws.length : Int) = 6) := by rw [L6.out]; rfl
    go_enter Tryd.func30, Tryd.ntmps30
    go_wp2_with fail
    refine Calls.mono KS.out ?_
    rintro e W ⟨rfl, rfl⟩
    go_wp2_with (at_make; refine wpList_make_own _ rfl _ _ 22 rfl W.heap.size 5 i0 (.int .u8 0) 1 Tryd.underlying22 hi hz0 hz1 _ _ _ 6 rfl rfl (by omega) (by rw [hz2]; omega) (by unfold maxLen; omega) (Nat.le_refl _) ?_; intro w2 ho2 hg2)
    have b2 : Below W.heap.size W w2 := (Below.refl _ _).grown hg2 (Nat.le_refl _) (fun k hk => by cases hk)
    have hcells : ∀ (j : Nat) (hj : j < ws.length), w2.cell? ⟨W0.heap.size, j, none⟩ = some (.string (ws[j]'hj)) := fun j hj => kept b2 (hcs j hj)
    have A2 := A1.kept b2
    have bw : Below w.heap.size w w2 := bel_tr b1 b2
    have z2 := b2.size
    have hlen : ws.length ≤ 6 := by rw [L6.out]; exact Nat.le_refl _
    obtain ⟨B, hB⟩ : ∃ B, W.heap.size = B := ⟨_, rfl⟩
    rw [hB] at ho2 b2 z2 z1
    replace ho2 : Owns w2 B (.slice (some ⟨B, 0, none⟩) ([] : List Int).length 6) [] := by simpa [Owns] using ho2
    have HB : Hid (W.heap.size = B) := hB
    try rw [hB]
    clear KS hg2 hi hz0 hz1 hz2 h6a h6b hcs A0 A1 b0 b1 hW0 hW1 b2 hB
    go_loopw [5, 21] (fun b i w' => ∃ (k : Nat) (r : List Int) (a : Option Addr) (c : Nat), k ≤ ws.length ∧ i = .int .i64 k ∧ b = .slice a r.length c ∧ r.length ≤ k ∧ M.Bytes r ∧ Owns w' B (.slice a r.length c) r ∧ Below B w2 w' ∧ Hid (qsGo ((ws.drop k).map (·.data.toList)) r = T)) (fun _ i _ => ws.length - (intOf i).toNat)
    case atStart => exact ⟨0, [], _, 6, Nat.zero_le _, rfl, rfl, Nat.le_refl _, M.Bytes.nil, ho2, Below.refl _ _, HT⟩
    case round =>
      obtain ⟨k, r, a, c, hk, rfl, rfl, hrl, hby, own, bel, hr⟩ := hrel
      have zr := bel.size
      by_cases hlt : k < ws.length
      · have hc : wr.cell? ⟨W0.heap.size, k, none⟩ = some (.string (ws[k]'hlt)) := (bel.cell (p := ⟨W0.heap.size, k, none⟩) (by show W0.heap.size < B; omega)).trans (hcells k hlt)
        have hr1 := hr.out
        rw [List.drop_eq_getElem_cons hlt, List.map_cons] at hr1
        have hx := hsm _ (List.getElem_mem hlt)
        generalize ws[k] = x at hc hr1 hx
        have hbd := num_bd 255 x.data.toList
        have KG : Hid (∀ W, Calls Tryd.prog 40 #[.string x, .int .i64 255] W fun e w' => e = .returned (.tuple #[.int .i64 (num 255 x.data.toList).1, .bool (num 255 x.data.toList).2]) ∧ Below W.heap.size W w') := fun W => number_ft x 255 W (by omega) (by omega)
        unfold qsGo at hr1
        generalize hgd : num 255 x.data.toList = g at *
        obtain ⟨n, ok⟩ := g
        simp only at hr1 hbd KG
        have HQ : Hid ((if ok = true then qsGo ((ws.drop (k + 1)).map (·.data.toList)) (r ++ [n]) else none) = T) := hr1
        have ilt : (k : Int) < (ws.length : Int) := by omega
        clear hr hr1 hgd hx
        cases ok with
        | false =>
          obtain rfl : T = none := by have := HQ.out; simpa using this.symm
          have zA := A2.lt
          have Ar := A2.below bel (by omega)
          have br : Below w.heap.size w wr := bw.trans (bel.mono (by omega))
          clear A2 bw HT bel own hcells
          go_wp2_with fail
          refine Calls.mono (KG.out _) ?_
          rintro e W3 ⟨rfl, b3⟩
          have A3 := Ar.kept b3
          have bw3 := bel_tr br b3
          clear Ar br b3 KG
          go_wp2_with (refine wpList_store_ft rfl 32 _ _ rfl w.heap.size as0.v as0.v (by rfl) (by rfl) A3 (info_as _ _ _ _ _) rfl (by simp [Value.oneCell']) ?_)
          exact ret_cell_tmp (k := 2) (j := 3) Tryd.f30 (by kernel_rfl) (A3.set as0.v) Tryd.underlying32 (info_as _ _ _ _ _) (by rfl) (by rfl) rfl ⟨rfl, below_setRow bw3 (Nat.le_refl _) _⟩
        | true =>
          obtain ⟨q, hq0⟩ : ∃ q, r ++ [n] = q := ⟨_, rfl⟩
          have hql : q.length ≤ k + 1 := by rw [← hq0]; simp; omega
          have hq : Hid (qsGo ((ws.drop (k + 1)).map (·.data.toList)) q = T) := by have := HQ.out; rw [if_pos rfl, hq0] at this; exact this
          have HR : Hid (r ++ [n] = q) := hq0
          have hqb : M.Bytes q := by rw [← hq0]; exact hby.app (fun z hz => by simp at hz; omega)
          clear hq0 HQ
          go_wp2_with fail
          refine Calls.mono (KG.out _) ?_
          rintro e w3 ⟨rfl, b3⟩
          have z3 := b3.size
          have bel2 : Below B w2 w3 := bel.trans (b3.mono (by omega))
          go_wp2_with (at_builtin; refine wpList_app2 _ rfl _ _ rfl B _ r rfl ((own.below b3).alloc _) hby _ 1 [n] rfl ?row (fun hh => by cases hh) q HR.out ?c1 ?c2 ?_)
          case row =>
            refine row_at _ 5 [n] _ (by first | rfl | simp) (by simp) ?_
            intro z hz
            simp at hz
            omega
          case c1 => omega
          case c2 => simp; omega
          intro a4 c4 w4 o4 hc4 hn4 r4 b4 _
          go_wp2
          exact ⟨⟨k + 1, q, a4, c4, by omega, int_eq (by omega), rfl, hql, hqb, o4, (bel2.alloc (by omega) _).trans b4, hq⟩, by simp [intOf]; omega⟩
      · have ek : k = ws.length := by omega
        have ilt : ¬ (k : Int) < (ws.length : Int) := by omega
        obtain rfl : T = some r := by
          have := hr.out
          rw [ek, List.drop_length] at this
          exact this.symm
        have hr6 : r.length = 6 := by
          have := qsGo_len _ _ _ HT.out
          simp at this
          rw [this]; exact L6.out
        obtain ⟨hcc, hcn⟩ := owns_room' own
        obtain ⟨gb, rfl, hgB⟩ : ∃ gb, a = some ⟨gb, 0, none⟩ ∧ B ≤ gb := by
          cases a with
          | none => have := hcn rfl; omega
          | some x =>
            obtain ⟨h1, h2⟩ := own
            rcases h2 with ⟨h3, h4⟩ | ⟨g, cap, cur, h3, h4, _⟩
            · cases h3
            · simp only [Value.slice.injEq, Option.some.injEq] at h3
              obtain ⟨rfl, _, rfl⟩ := h3
              exact ⟨g, rfl, h4⟩
        have hrow := own.row (by omega) hby
        have hbd : ∀ j, 0 ≤ r.getD j 0 ∧ r.getD j 0 ≤ 255 := fun j => by
          rw [List.getD_eq_getElem?_getD]
          cases hj : r[j]? with
          | none => exact ⟨by simp, by simp⟩
          | some v =>
            have := hby v (List.mem_of_getElem? hj)
            simp only [Option.getD_some]; omega
        have Ce : B45 gb (r.getD 4 0) (r.getD 5 0) wr := ⟨by have := hrow.cell 4 (by omega); simpa using this, by have := hrow.cell 5 (by omega); simpa using this⟩
        have h4 := hbd 4
        have h5 := hbd 5
        have ht4 : (r.take 4).length = 4 := by simp; omega
        have KF0 := from_any (some ⟨gb, 0, none⟩) c (r.take 4) wr (hrow.take 4)
        have hf : (fromB (r.take 4)).2 = 0 := by unfold fromB; rw [if_pos ht4]
        rw [ht4, hf] at KF0
        obtain ⟨fa, hfa⟩ : ∃ fa, (fromB (r.take 4)).1 = fa := ⟨_, rfl⟩
        have KF : Hid (Calls Tryd.prog 41 #[.slice (some ⟨gb, 0, none⟩) 4 c] wr fun e w' => e = .returned (.tuple #[.agg (Ad.va fa), .int .i64 0]) ∧ Below wr.heap.size wr w') := by rw [← hfa]; exact KF0
        have HFA : Hid ((fromB (r.take 4)).1 = fa) := hfa
        have Ae := A2.below bel (by omega)
        have be : Below w.heap.size w wr := bw.trans (bel.mono (by omega))
        have nCA : gb ≠ w.heap.size := by omega
        have nAC : w.heap.size ≠ gb := by omega
        have gA : w.heap.size ≤ w.heap.size := Nat.le_refl _
        have g6 : (6 : Int) ≤ (c : Int) := by omega
        have hr6i : (r.length : Int) = 6 := by omega
        obtain ⟨x4, hx4⟩ : ∃ x4, r.getD 4 0 = x4 := ⟨_, rfl⟩
        obtain ⟨x5, hx5⟩ : ∃ x5, r.getD 5 0 = x5 := ⟨_, rfl⟩
        rw [hx4] at h4 Ce
        rw [hx5] at h5 Ce
        have HX4 : Hid (r.getD 4 0 = x4) := hx4
        have HX5 : Hid (r.getD 5 0 = x5) := hx5
        have wx4 : IntKind.i64.wrap x4 = x4 := wraps_i64 _ (by omega) (by omega)
        have wx5 : IntKind.i64.wrap x5 = x5 := wraps_i64 _ (by omega) (by omega)
        have wxs : IntKind.i64.wrap (x4 * 256) = x4 * 256 := wraps_i64 _ (by omega) (by omega)
        have wxo : bits .or .i64 (x4 * 256) x5 = x4 * 256 + x5 := bits_join .i64 63 (by decide) wraps_i64 8 (x4 * 256) x5 (by omega) (by omega) (by omega) (by omega) (by omega) (by omega)
        clear hx4 hx5
        obtain ⟨We, hWe⟩ : ∃ We, wr = We := ⟨_, rfl⟩
        rw [hWe] at KF Ce Ae be ⊢
        clear hfa hbd KF0 hf hrow own hcn hr HT hcells A2 bel bw hsm hWe ek hgB ho2
        go_wp2_with fail
        refine Calls.mono (KF.out) ?_
        rintro e Wm1 ⟨rfl, bb⟩
        have Am1 := Ae.kept bb
        have Cm1 := Ce.kept bb
        have bm1 := bel_tr be bb
        clear bb
        clear Ae Ce be
        obtain ⟨Wm2, hWm2⟩ : ∃ W, Wm1.alloc (.cells #[.int .i64 0, .int .u64 0, .int .u64 0] 30) = W := ⟨_, rfl⟩
        have bm2 := bel_al bm1 hWm2
        have Am2 := Am1.al hWm2
        have Cm2 := Cm1.al hWm2
        have Bm2 := blk_nw hWm2
        have gB : w.heap.size ≤ Wm1.heap.size := bm1.size
        have nAB : w.heap.size ≠ Wm1.heap.size := by have := Am1.lt; omega
        have nBA : Wm1.heap.size ≠ w.heap.size := fun e => nAB e.symm
        have nCB : gb ≠ Wm1.heap.size := fun e => by have := Cm1.lt; omega
        obtain ⟨Wm3, hWm3⟩ : ∃ W, Wm2.setRow Wm1.heap.size (Ad.va fa) = W := ⟨_, rfl⟩
        have Bm3 : Blk Wm3 Wm1.heap.size 30 (Ad.va fa) := hWm3 ▸ Bm2.set (Ad.va fa)
        have Am3 := hWm3 ▸ Am2.other nAB (Ad.va fa)
        have Cm3 := hWm3 ▸ Cm2.other nCB (Ad.va fa)
        have bm3 := hWm3 ▸ below_setRow bm2 gB (Ad.va fa)
        go_wp2_with (refine wpList_store_row rfl _ _ _ rfl Wm1.heap.size (Ad.va fa) (by rfl) (by rfl) _ _ Bm2 (by kernel_rfl) (by rfl) (by kernel_rfl) ?_; rw [hWm3])
        obtain ⟨Wdq4, hWdq4⟩ : ∃ W, Wm3.drew = W := ⟨_, rfl⟩
        have Adq4 := hWdq4 ▸ Am3.drew
        have Cdq4 := hWdq4 ▸ Cm3.drew
        have Bdq4 := hWdq4 ▸ Bm3.drew
        have bdq4 := hWdq4 ▸ bm3.drew
        refine wp_region_noPanic ?_
        refine wp_region_held_drew (S := fun w' => B45 gb x4 x5 w' ∧ Blk w' Wm1.heap.size 30 (Ad.va fa)) (by kernel_rfl) (by rw [hWdq4]; exact ⟨Cdq4, Bdq4⟩) (fun hHeld => ?_)
        rw [hWdq4] at hHeld ⊢
        refine qty (i := 0) (oi := { dst := some 45, op := Op.load 30 (.tmp 10), type := 30, pos := "place.go:82", after := #[], guard := none }) (v := (.agg (Ad.va fa))) (yieldsIf_blk_w (by kernel_rfl) _ _ rfl Wm1.heap.size (by rfl) _ (fun _ hSw => hSw.2) Tryd.underlying30 (by kernel_rfl)) hHeld ?_
        try simp only [qpu]
        refine qtk (i := 1) (oi := { dst := some 46, op := Op.move (.tmp 5), type := 22, pos := "place.go:82", after := #[], guard := none }) (v := (.slice (some ⟨gb, 0, none⟩) 6 c)) hHeld ?_ ?_
        · intro w9 hSw
          try dsimp only at hSw
          go_simp
        try simp only [qpu]
        refine qtk (i := 2) (oi := { dst := some 47, op := Op.indexAddr 22 (.tmp 46) (.const (.int .i64 4)), type := 0, pos := "place.go:82", after := #[{ on := 1, ground := Ground.data }], guard := none }) (v := (.pointer (some ⟨gb, 4, none⟩))) hHeld ?_ ?_
        · intro w9 hSw
          try dsimp only at hSw
          go_simp
        try simp only [qpu]
        refine qtk (i := 3) (oi := { dst := some 48, op := Op.load 5 (.tmp 47), type := 5, pos := "place.go:82", after := #[{ on := 2, ground := Ground.data }], guard := none }) (v := (.int .u8 x4)) hHeld ?_ ?_
        · intro w9 hSw
          try dsimp only at hSw
          have hcc := hSw.1.c4
          go_simp
        try simp only [qpu]
        refine qtk (i := 4) (oi := { dst := some 49, op := Op.convert 5 3 (.tmp 48), type := 3, pos := "place.go:82", after := #[{ on := 3, ground := Ground.data }], guard := none }) (v := (.int .i64 x4)) hHeld ?_ ?_
        · intro w9 hSw
          try dsimp only at hSw
          go_simp
        try simp only [qpu]
        refine qtk (i := 5) (oi := { dst := some 50, op := Op.binOp BinOp.shl 3 (.tmp 49) (.const (.int .u64 8)) 67, type := 3, pos := "place.go:82", after := #[{ on := 4, ground := Ground.data }], guard := none }) (v := (.int .i64 (x4 * 256))) hHeld ?_ ?_
        · intro w9 hSw
          try dsimp only at hSw
          have hcc := shl_ft x4 h4
          go_simp
        try simp only [qpu]
        refine qtk (i := 6) (oi := { dst := some 51, op := Op.move (.tmp 5), type := 22, pos := "place.go:82", after := #[], guard := none }) (v := (.slice (some ⟨gb, 0, none⟩) 6 c)) hHeld ?_ ?_
        · intro w9 hSw
          try dsimp only at hSw
          go_simp
        try simp only [qpu]
        refine qtk (i := 7) (oi := { dst := some 52, op := Op.indexAddr 22 (.tmp 51) (.const (.int .i64 5)), type := 0, pos := "place.go:82", after := #[{ on := 6, ground := Ground.data }], guard := none }) (v := (.pointer (some ⟨gb, 5, none⟩))) hHeld ?_ ?_
        · intro w9 hSw
          try dsimp only at hSw
          go_simp
        try simp only [qpu]
        refine qtk (i := 8) (oi := { dst := some 53, op := Op.load 5 (.tmp 52), type := 5, pos := "place.go:82", after := #[{ on := 7, ground := Ground.data }], guard := none }) (v := (.int .u8 x5)) hHeld ?_ ?_
        · intro w9 hSw
          try dsimp only at hSw
          have hcc := hSw.1.c5
          go_simp
        try simp only [qpu]
        refine qtk (i := 9) (oi := { dst := some 54, op := Op.convert 5 3 (.tmp 53), type := 3, pos := "place.go:82", after := #[{ on := 8, ground := Ground.data }], guard := none }) (v := (.int .i64 x5)) hHeld ?_ ?_
        · intro w9 hSw
          try dsimp only at hSw
          go_simp
        try simp only [qpu]
        refine qtk (i := 10) (oi := { dst := some 55, op := Op.binOp BinOp.or 3 (.tmp 50) (.tmp 54) 3, type := 3, pos := "place.go:82", after := #[{ on := 5, ground := Ground.data }, { on := 9, ground := Ground.data }], guard := none }) (v := (.int .i64 (x4 * 256 + x5))) hHeld ?_ ?_
        · intro w9 hSw
          try dsimp only at hSw
          have hcc := or_ft x4 x5 h4 h5
          go_simp
        try simp only [qpu]
        refine qtk (i := 11) (oi := { dst := some 56, op := Op.move (.tmp 11), type := 63, pos := "place.go:82", after := #[], guard := none }) (v := (.int .i64 0)) hHeld ?_ ?_
        · intro w9 hSw
          try dsimp only at hSw
          go_simp
        try simp only [qpu]
        refine qtk (i := 12) (oi := { dst := some 57, op := Op.binOp BinOp.eql 63 (.tmp 56) (.const (.int .i64 0)) 63, type := 4, pos := "place.go:82", after := #[{ on := 11, ground := Ground.data }], guard := none }) (v := (.bool true)) hHeld ?_ ?_
        · intro w9 hSw
          try dsimp only at hSw
          go_simp
        try simp only [qpu]
        refine wpAnyH_ready (rs := [13]) (by kernel_rfl) (by simp) ?_
        refine AllReadyH.cons (o := { dst := some 58, op := Op.call { callee := Callee.value (.func 42), args := #[.tmp 45, .tmp 55, .tmp 57], argTypes := #[30, 3, 4] }, type := 33, pos := "place.go:82", after := #[{ on := 0, ground := Ground.data }, { on := 10, ground := Ground.data }, { on := 12, ground := Ground.data }], guard := none }) rfl (fun K hK => ?_) AllReadyH.nil
        go_simp
        refine Calls.mono (place_ft fa (x4 * 256 + x5) true _) ?_
        rintro e Wx5 ⟨rfl, bb⟩
        have Cx5 := Cdq4.kept bb
        have Bx5 := Bdq4.kept bb
        have Ax5 := Adq4.kept bb
        have bx5 := bel_tr bdq4 bb
        clear bb
        refine hK.out _ _ (by exact ⟨Cx5, Bx5⟩) (fun hHeld => ?_)
        clear hK K
        try simp only [qpu]
        refine qtk (i := 14) (oi := { dst := some 59, op := Op.extract (.tmp 58) 0, type := 32, pos := "place.go:82", after := #[{ on := 13, ground := Ground.data }], guard := none }) (v := (.agg (askT (placeF fa (x4 * 256 + x5) true)).1.v)) hHeld ?_ ?_
        · intro w9 hSw
          try dsimp only at hSw
          go_simp
        try simp only [qpu]
        refine qtk (i := 15) (oi := { dst := some 60, op := Op.extract (.tmp 58) 1, type := 4, pos := "place.go:82", after := #[{ on := 13, ground := Ground.data }], guard := none }) (v := (.bool (askT (placeF fa (x4 * 256 + x5) true)).2)) hHeld ?_ ?_
        · intro w9 hSw
          try dsimp only at hSw
          go_simp
        try simp only [qpu]
        refine wpAnyH_ready (rs := [16]) (by kernel_rfl) (by simp) ?_
        refine AllReadyH.cons (o := { dst := none, op := Op.store 32 (.tmp 2) (.tmp 59), type := 0, pos := "place.go:82", after := #[{ on := 14, ground := Ground.data }, { on := 13, ground := Ground.chain }, { on := 0, ground := Ground.phase }, { on := 1, ground := Ground.phase }, { on := 2, ground := Ground.phase }, { on := 3, ground := Ground.phase }, { on := 4, ground := Ground.phase }, { on := 5, ground := Ground.phase }, { on := 6, ground := Ground.phase }, { on := 7, ground := Ground.phase }, { on := 8, ground := Ground.phase }, { on := 9, ground := Ground.phase }, { on := 10, ground := Ground.phase }, { on := 11, ground := Ground.phase }, { on := 12, ground := Ground.phase }, { on := 13, ground := Ground.phase }, { on := 14, ground := Ground.phase }, { on := 15, ground := Ground.phase }], guard := none }) rfl (fun K hK => ?_) AllReadyH.nil
        refine step_store_blk rfl _ _ _ rfl w.heap.size (askT (placeF fa (x4 * 256 + x5) true)).1.v _ (by rfl) (by rfl) Ax5 (by kernel_rfl) (by rfl) (by kernel_rfl) ?_
        obtain ⟨Wx1, hWx1⟩ : ∃ W, Wx5.setRow w.heap.size (askT (placeF fa (x4 * 256 + x5) true)).1.v = W := ⟨_, rfl⟩
        rw [hWx1]
        have Cx1 := hWx1 ▸ Cx5.other nCA (askT (placeF fa (x4 * 256 + x5) true)).1.v
        have Bx1 := hWx1 ▸ Bx5.other nBA (askT (placeF fa (x4 * 256 + x5) true)).1.v
        have Ax1 : Blk Wx1 w.heap.size 32 (askT (placeF fa (x4 * 256 + x5) true)).1.v := hWx1 ▸ Ax5.set (askT (placeF fa (x4 * 256 + x5) true)).1.v
        have bx1 := hWx1 ▸ below_setRow bx5 gA (askT (placeF fa (x4 * 256 + x5) true)).1.v
        refine hK.out _ _ (by exact ⟨Cx1, Bx1⟩) (fun hHeld => ?_)
        clear hK K
        try simp only [qpu]
        refine qtk (i := 17) (oi := { dst := some 3, op := Op.assign (.tmp 60), type := 4, pos := "place.go:82", after := #[{ on := 15, ground := Ground.data }, { on := 16, ground := Ground.chain }, { on := 0, ground := Ground.phase }, { on := 1, ground := Ground.phase }, { on := 2, ground := Ground.phase }, { on := 3, ground := Ground.phase }, { on := 4, ground := Ground.phase }, { on := 5, ground := Ground.phase }, { on := 6, ground := Ground.phase }, { on := 7, ground := Ground.phase }, { on := 8, ground := Ground.phase }, { on := 9, ground := Ground.phase }, { on := 10, ground := Ground.phase }, { on := 11, ground := Ground.phase }, { on := 12, ground := Ground.phase }, { on := 13, ground := Ground.phase }, { on := 14, ground := Ground.phase }, { on := 15, ground := Ground.phase }, { on := 16, ground := Ground.phase }], guard := none }) (v := (.bool (askT (placeF fa (x4 * 256 + x5) true)).2)) hHeld ?_ ?_
        · intro w9 hSw
          try dsimp only at hSw
          go_simp
        try simp only [qpu]
        refine wpAnyH_done (by kernel_rfl) ?_ _
        refine NoPanic.normal ?_
        go_wp2_with fail
        have hg4 : r[4] = x4 := (getD_at r _ (by omega)).symm.trans HX4.out
        have hg5 : r[5] = x5 := (getD_at r _ (by omega)).symm.trans HX5.out
        have hfin : Ending.returned (.tuple #[.agg (askT (placeF fa (x4 * 256 + x5) true)).1.v, .bool (askT (placeF fa (x4 * 256 + x5) true)).2]) = Ending.returned (askV (placeF (fromB (r.take 4)).1 (r[4] * 256 + r[5]) true)) := by rw [HFA.out, hg4, hg5]; rfl
        exact ret_cell_tmp (k := 2) (j := 3) (v := .bool (askT (placeF fa (x4 * 256 + x5) true)).2) Tryd.f30 (by kernel_rfl) Ax1 Tryd.underlying32 (by kernel_rfl) (by rfl) (by rfl) rfl ⟨hfin, bx1⟩

  · have h6a : ¬ ((ws.length : Int) = 6) := by omega
    obtain rfl : T = none := by have := HT.out; rw [if_neg h6] at this; exact this.symm
    go_enter Tryd.func30, Tryd.ntmps30
    go_wp2_with fail
    refine Calls.mono KS.out ?_
    rintro e W ⟨rfl, rfl⟩
    go_wp2_with (refine wpList_store_ft rfl 32 _ _ rfl w.heap.size as0.v as0.v (by rfl) (by rfl) A1 (info_as _ _ _ _ _) rfl (by simp [Value.oneCell']) ?_)
    exact ret_cell_tmp (k := 2) (j := 3) Tryd.f30 (by kernel_rfl) (A1.set as0.v) Tryd.underlying32 (info_as _ _ _ _ _) (by rfl) (by rfl) rfl ⟨rfl, below_setRow b1 (Nat.le_refl _) _⟩
end Go.Proofs.YtnadfacbfcdkgaaDoor
