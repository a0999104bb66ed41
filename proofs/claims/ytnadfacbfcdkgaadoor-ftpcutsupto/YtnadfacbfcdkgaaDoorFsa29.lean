/- Texts joined: FtJ -/
import Derived.Test.YtnadfacbfcdkgaaDoorFsa28
namespace Go.Proofs.YtnadfacbfcdkgaaDoor
open Go.RowKit
set_option linter.unusedVariables false
set_option linter.unusedSimpArgs false
/-- What lies in a block from its beginning on. -/
structure F5 (W : World) (g : Nat) (cs : Array Value) : Prop where
  all : ∀ k v, cs[k]? = some v → W.cell? ⟨g, k, none⟩ = some v
theorem F5.cell {W : World} {g : Nat} {cs : Array Value} (h : F5 W g cs) (k : Nat) (v : Value) (hv : cs[k]? = some v) : W.cell? ⟨g, k, none⟩ = some v := h.all k v hv
theorem F5.lt {W : World} {g : Nat} {v : Value} {l : List Value} (h : F5 W g (v :: l).toArray) : g < W.heap.size := World.block_lt_of_cell? W ⟨g, 0, none⟩ (h.all 0 v (by simp))
theorem F5.kept {W W' : World} {g : Nat} {cs : Array Value} (h : F5 W g cs) (hb : Below W.heap.size W W') : F5 W' g cs := ⟨fun k v hv => Go.Proofs.YtnadfacbfcdkgaaDoor.kept hb (h.all k v hv)⟩
theorem F5.al {W W' : World} {g : Nat} {cs : Array Value} {o : Obj} (h : F5 W g cs) (e : W.alloc o = W') : F5 W' g cs := h.kept (bel_nw e)
theorem F5.other {W : World} {k : Nat} {cs : Array Value} (h : F5 W k cs) {g : Nat} (hn : k ≠ g) (c : Array Value) : F5 (W.setRow g c) k cs := ⟨fun i v hv => ((But.refl (fun k => k = g) W).setRow g (.inl rfl) c).cell hn (h.all i v hv)⟩
theorem OwnsS.row0 {w : World} {B : Nat} {a : Option Addr} {c : Nat} {l : List ByteArray} (h : OwnsS w B (.slice a l.length c) l) (hp : 0 < l.length) : ∃ g, a = some ⟨g, 0, none⟩ ∧ B ≤ g ∧ g < w.heap.size ∧ ∀ i x, l[i]? = some x → w.cell? ⟨g, i, none⟩ = some (.string x) := by
  have h0 := h
  obtain ⟨h1, h2⟩ := h
  rcases h2 with ⟨h3, h4⟩ | ⟨g, cap, cur, h3, h4, h5, h6, h7, h8, h9⟩
  · omega
  · simp only [Value.slice.injEq] at h3
    obtain ⟨rfl, _, rfl⟩ := h3
    refine ⟨g, rfl, h4, (Array.getElem?_eq_some_iff.1 h5).1, fun i x hx => ?_⟩
    have hi : i < l.length := (List.getElem?_eq_some_iff.1 hx).1
    have hc := World.ownsRow.cellAt (e := 9) (size := 1) h0 i (by omega)
    rw [hc]
    simp [hx]
theorem em_ft (x : ByteArray) : x.toList.isEmpty = decide (x.data.toList = []) := by rw [ByteArray.toList_eq]; exact empty_ft _
theorem ebeq_ft (x : ByteArray) (l : List UInt8) : (x.toList == l) = decide (x.data.toList = l) := by rw [ByteArray.toList_eq, Bool.eq_iff_iff]; simp
theorem epr5_len {fam : Int} {L : List (List UInt8)} (h : L.length ≠ 5) : epr5 fam L = none := by
  match L with
  | [] => rfl
  | [_] => rfl
  | [_, _] => rfl
  | [_, _, _] => rfl
  | [_, _, _, _] => rfl
  | [_, _, _, _, _] => simp at h
  | _ :: _ :: _ :: _ :: _ :: _ :: _ => rfl
set_option maxRecDepth 100000 in
set_option maxHeartbeats 4000000 in
theorem reprt_ft (fam : Int) (s : ByteArray) (w : World) (hs : s.size ≤ 4294967280) :
    Calls Tryd.prog 24 #[.int .i64 fam, .string s] w fun e w' => e = .returned (askV (eprD fam s.data.toList)) ∧ Below w.heap.size w w' := by
  have es : s.data.toList.length = s.size := Array.length_toList
  obtain ⟨W0, hW0⟩ : ∃ W, w.alloc (.cells #[.int .i64 0, .int .i64 0, .int .u64 0, .int .u64 0, .int .i64 0] 32) = W := ⟨_, rfl⟩
  have b0 := bel_nw hW0
  have A0 : Blk W0 w.heap.size 32 as0.v := blk_nw hW0
  by_cases h0 : s.size = 0
  · have e0 := empty_of_size h0
    subst e0
    go_enter Tryd.func24, Tryd.ntmps24
    go_wp2_with (refine wpList_store_ft rfl 32 _ _ rfl w.heap.size as0.v as0.v (by rfl) (by rfl) A0 (info_as _ _ _ _ _) rfl (by simp [Value.oneCell']) ?_)
    exact ret_cell_tmp (k := 4) (j := 5) Tryd.f24 (by kernel_rfl) (A0.set as0.v) Tryd.underlying32 (info_as _ _ _ _ _) (by rfl) (by rfl) rfl ⟨rfl, below_setRow b0 (Nat.le_refl _) _⟩
  have hpos : 0 < s.size := by omega
  have hne := nonempty_list h0
  have hix := idx_ft s 0 hpos
  have hd0 := dat_at s 0 hpos
  obtain ⟨d, hd⟩ : ∃ d, s[0]'hpos = d := ⟨_, rfl⟩
  rw [hd] at hix hd0
  obtain ⟨N, hN⟩ : ∃ N, d.toNat = N := ⟨_, rfl⟩
  rw [hN] at hix
  have hix0 : ∀ W, (Instr.index 9 (.string s) (.int .i64 0)).run Tryd.prog W = .ok (.int .u8 (N : Int)) W := hix
  have KM : Hid (∀ W, Calls Tryd.prog 26 #[.int .u8 N] W fun e w' => e = .returned (.bool (mayD d)) ∧ w' = W) := fun W => rmark_ft d N hN W
  have hep : eprD fam s.data.toList = if mayD d = true then epr5 fam (spl d s.data.toList) else none := by
    cases hl : s.data.toList with
    | nil => rw [hl] at es; simp at es; omega
    | cons x t =>
      rw [hl] at hd0
      have : x = d := by simpa using hd0
      subst this
      rw [eprD_cons]
  rw [hep]
  clear hep hix hd0 hd h0
  cases hmd : mayD d with
  | false =>
    rw [hmd] at KM
    rw [if_neg (by decide)]
    go_enter Tryd.func24, Tryd.ntmps24
    go_wp2_with fail
    refine Calls.mono (KM.out _) ?_
    rintro e W ⟨rfl, rfl⟩
    go_wp2_with (refine wpList_store_ft rfl 32 _ _ rfl w.heap.size as0.v as0.v (by rfl) (by rfl) A0 (info_as _ _ _ _ _) rfl (by simp [Value.oneCell']) ?_)
    exact ret_cell_tmp (k := 4) (j := 5) Tryd.f24 (by kernel_rfl) (A0.set as0.v) Tryd.underlying32 (info_as _ _ _ _ _) (by rfl) (by rfl) rfl ⟨rfl, below_setRow b0 (Nat.le_refl _) _⟩
  | true =>
    rw [hmd] at KM
    rw [if_pos rfl]
    have KS : Hid (Calls Tryd.prog 34 #[.string s, .int .u8 N] W0 fun e w' => ∃ a k xs, e = .returned (.slice a xs.length k) ∧ GotS W0 (spl d s.data.toList) w' a k xs) := rsplit_any s d N hN W0 (by omega)
    have hsub := spl_sub d s.data.toList
    obtain ⟨L, hL⟩ : ∃ L, spl d s.data.toList = L := ⟨_, rfl⟩
    rw [hL] at KS hsub ⊢
    obtain ⟨Z, hZ⟩ : ∃ Z, epr5 fam L = Z := ⟨_, rfl⟩
    rw [hZ]
    have HZL : Hid (epr5 fam L = Z) := hZ
    clear hL hN hmd hZ
    go_enter Tryd.func24, Tryd.ntmps24
    go_wp2_with fail
    refine Calls.mono (KM.out _) ?_
    rintro e Wz ⟨rfl, hWz⟩
    subst hWz
    clear hW0
    go_wp2_with fail
    refine Calls.mono KS.out ?_
    rintro e We ⟨aw, kw, ws, rfl, gs⟩
    rename_i Kr hkr Kc hkc
    have HK : Hid _ := hkr
    clear hkr
    have Ae := A0.kept gs.below
    have be := bel_tr b0 gs.below
    have hsz : ∀ x ∈ ws, x.size ≤ 4294967280 := fun x hx => by
      have h1 : x.data.toList ∈ L := by rw [← gs.parts]; exact List.mem_map_of_mem hx
      have h2 := hsub _ h1
      have h3 : x.data.toList.length = x.size := Array.length_toList
      omega
    have hzz : w.heap.size < Wz.heap.size := A0.lt
    have hparts := gs.parts
    have hown := gs.owns
    clear gs KS A0 b0 hsub KM hix0
    by_cases h5 : ws.length = 5
    case neg =>
      obtain rfl : Z = none := by rw [← HZL.out, epr5_len (by rw [← hparts]; simpa using h5)]
      have h5a : ¬ ((ws.length : Int) = 5) := by omega
      clear hown hparts hsz
      go_wp2_with fail
      refine HK.out _ _ ?_
      clear HK
      repeat (apply wp_seq_k; intro _ _)
      rename_i Kr2 hkr2
      have HK : Hid _ := hkr2
      clear hkr2
      go_wp2_with fail
      refine HK.out _ _ ?_
      clear HK
      go_wp2_with (refine wpList_store_ft rfl 32 _ _ rfl w.heap.size as0.v as0.v (by rfl) (by rfl) Ae (info_as _ _ _ _ _) rfl (by simp [Value.oneCell']) ?_)
      exact ret_cell_tmp (k := 4) (j := 5) Tryd.f24 (by kernel_rfl) (Ae.set as0.v) Tryd.underlying32 (info_as _ _ _ _ _) (by rfl) (by rfl) rfl ⟨rfl, below_setRow be (Nat.le_refl _) _⟩

    case pos =>
      match ws, h5 with
      | [x0, n, h, p, e], _ =>
        obtain ⟨bs, rfl, hBs, hbl, hcs⟩ := hown.row0 (by simp)
        have Fe : F5 We bs #[.string x0, .string n, .string h, .string p, .string e] := ⟨fun k v hv => by
          rcases k with _ | _ | _ | _ | _ | k
          · have := hcs 0 x0 rfl; simp at hv; subst hv; exact this
          · have := hcs 1 n rfl; simp at hv; subst hv; exact this
          · have := hcs 2 h rfl; simp at hv; subst hv; exact this
          · have := hcs 3 p rfl; simp at hv; subst hv; exact this
          · have := hcs 4 e rfl; simp at hv; subst hv; exact this
          · simp at hv⟩
        have zh := hsz h (by simp)
        have zp := hsz p (by simp)
        have KD : Hid (∀ W, Calls Tryd.prog 27 #[.string p] W fun e w' => e = .returned (.bool (digF p.data.toList)) ∧ Below W.heap.size W w') := fun W => (rdigits_ft p W zp).mono fun e w' h => ⟨h.1, by rw [h.2]; exact Below.refl _ _⟩
        have KO : Hid (∀ W, Calls Tryd.prog 28 #[.string p] W fun e w' => e = .returned (.tuple #[.int .i64 (num 65535 p.data.toList).1, .bool (prtF p.data.toList)]) ∧ Below W.heap.size W w') := fun W => (rport_ft p W zp).mono fun e w' h => ⟨h.1, by rw [h.2]; exact Below.refl _ _⟩
        have KP : Hid (∀ W, Calls Tryd.prog 37 #[.string h] W fun e w' => e = .returned (.tuple #[.agg (Ad.va (parseB h.data.toList).1), .int .i64 (parseB h.data.toList).2]) ∧ Below W.heap.size W w') := fun W => rparse_any h W (by omega)
        have hZ := HZL.out
        rw [← hparts] at hZ
        have HZ0 : (if x0.data.toList = [] ∧ e.data.toList = [] ∧ digF p.data.toList = true ∧ (parseB h.data.toList).2 = 0 ∧ prtF p.data.toList = true ∧ (parseB h.data.toList).1.fam = fam ∧ ((n.data.toList = [49] ∧ fam = 4) ∨ (n.data.toList = [50] ∧ fam = 6)) then some (⟨6, (parseB h.data.toList).1, (num 65535 p.data.toList).1⟩ : As) else none) = Z := hZ
        generalize digF p.data.toList = dk at *
        generalize prtF p.data.toList = pk at *
        generalize (num 65535 p.data.toList).1 = pn at *
        generalize hpa : parseB h.data.toList = pa at *
        obtain ⟨fa, pe⟩ := pa
        simp only at HZ0 KP
        have HZ : Hid _ := HZ0
        have kw5 : ((([x0, n, h, p, e] : List ByteArray).length : Nat) : Int) = 5 := rfl
        have nFA : bs ≠ w.heap.size := by have := hzz; omega
        have nAF : w.heap.size ≠ bs := fun e => nFA e.symm
        have gA : w.heap.size ≤ w.heap.size := Nat.le_refl _
        clear hcs hown hparts hZ HZ0 hsz HZL zh zp hpa hbl hBs kw5
        go_wp2_with fail
        refine HK.out _ _ ?_
        clear HK
        cases hq2 : x0.toList.isEmpty with
        | false =>
          have c3 := Fe.cell 0 (.string x0) rfl
          repeat (apply wp_seq_k; intro _ _)
          rename_i Kr hkr
          have HK : Hid _ := hkr
          clear hkr
          go_wp2_with fail
          refine HK.out _ _ ?_
          clear HK
          clear c3
          obtain ⟨Wm4, hWm4⟩ : ∃ W, We.setRow w.heap.size as0.v = W := ⟨_, rfl⟩
          have Am4 : Blk Wm4 w.heap.size 32 as0.v := hWm4 ▸ Ae.set as0.v
          have Fm4 := hWm4 ▸ Fe.other nFA as0.v
          have bm4 := hWm4 ▸ below_setRow be gA as0.v
          go_wp2_with (guard_target =~ wpList _ _ _ ({ dst := none, op := Op.store _ _ _, type := _, pos := _, after := _, guard := none } :: _) _ _; refine wpList_store_row rfl _ _ _ rfl w.heap.size as0.v (by rfl) (by rfl) _ _ Ae (by kernel_rfl) (by rfl) (by kernel_rfl) ?_; rw [hWm4])
          have hZ2 : Z = none := by rw [← HZ.out]; simp [(show ¬ x0.data.toList = [] from by have := hq2; rw [em_ft] at this; exact of_decide_eq_false this)]
          subst hZ2
          exact ret_cell_tmp (k := 4) (j := 5) (v := .bool false) Tryd.f24 (by kernel_rfl) Am4 Tryd.underlying32 (by kernel_rfl) (by rfl) (by rfl) rfl ⟨rfl, bm4⟩

        | true =>
          cases hq7 : e.toList.isEmpty with
          | false =>
            have c8 := Fe.cell 0 (.string x0) rfl
            have c9 := Fe.cell 4 (.string e) rfl
            repeat (apply wp_seq_k; intro _ _)
            rename_i Kr hkr
            have HK : Hid _ := hkr
            clear hkr
            go_wp2_with fail
            refine HK.out _ _ ?_
            clear HK
            clear c8 c9
            obtain ⟨Wm10, hWm10⟩ : ∃ W, We.setRow w.heap.size as0.v = W := ⟨_, rfl⟩
            have Am10 : Blk Wm10 w.heap.size 32 as0.v := hWm10 ▸ Ae.set as0.v
            have Fm10 := hWm10 ▸ Fe.other nFA as0.v
            have bm10 := hWm10 ▸ below_setRow be gA as0.v
            go_wp2_with (guard_target =~ wpList _ _ _ ({ dst := none, op := Op.store _ _ _, type := _, pos := _, after := _, guard := none } :: _) _ _; refine wpList_store_row rfl _ _ _ rfl w.heap.size as0.v (by rfl) (by rfl) _ _ Ae (by kernel_rfl) (by rfl) (by kernel_rfl) ?_; rw [hWm10])
            have hZ2 : Z = none := by rw [← HZ.out]; simp [(show x0.data.toList = [] from by have := hq2; rw [em_ft] at this; exact of_decide_eq_true this), (show ¬ e.data.toList = [] from by have := hq7; rw [em_ft] at this; exact of_decide_eq_false this)]
            subst hZ2
            exact ret_cell_tmp (k := 4) (j := 5) (v := .bool false) Tryd.f24 (by kernel_rfl) Am10 Tryd.underlying32 (by kernel_rfl) (by rfl) (by rfl) rfl ⟨rfl, bm10⟩

          | true =>
            have c11 := Fe.cell 0 (.string x0) rfl
            have c12 := Fe.cell 4 (.string e) rfl
            have c13 := Fe.cell 3 (.string p) rfl
            go_wp2_with fail
            clear c11 c12 c13
            refine Calls.mono (KD.out _) ?_
            rintro e Wm14 ⟨rfl, bb⟩
            have Am14 := Ae.kept bb
            have Fm14 := Fe.kept bb
            have bm14 := bel_tr be bb
            clear bb
            clear Ae Fe be
            cases hq15 : dk with
            | false =>
              obtain ⟨Wm16, hWm16⟩ : ∃ W, Wm14.setRow w.heap.size as0.v = W := ⟨_, rfl⟩
              have Am16 : Blk Wm16 w.heap.size 32 as0.v := hWm16 ▸ Am14.set as0.v
              have Fm16 := hWm16 ▸ Fm14.other nFA as0.v
              have bm16 := hWm16 ▸ below_setRow bm14 gA as0.v
              go_wp2_with (guard_target =~ wpList _ _ _ ({ dst := none, op := Op.store _ _ _, type := _, pos := _, after := _, guard := none } :: _) _ _; refine wpList_store_row rfl _ _ _ rfl w.heap.size as0.v (by rfl) (by rfl) _ _ Am14 (by kernel_rfl) (by rfl) (by kernel_rfl) ?_; rw [hWm16])
              have hZ2 : Z = none := by rw [← HZ.out]; simp [(show x0.data.toList = [] from by have := hq2; rw [em_ft] at this; exact of_decide_eq_true this), (show e.data.toList = [] from by have := hq7; rw [em_ft] at this; exact of_decide_eq_true this), hq15]
              subst hZ2
              exact ret_cell_tmp (k := 4) (j := 5) (v := .bool false) Tryd.f24 (by kernel_rfl) Am16 Tryd.underlying32 (by kernel_rfl) (by rfl) (by rfl) rfl ⟨rfl, bm16⟩

            | true =>
              have c17 := Fm14.cell 2 (.string h) rfl
              go_wp2_with fail
              clear c17
              refine Calls.mono (KP.out _) ?_
              rintro e Wm18 ⟨rfl, bb⟩
              have Am18 := Am14.kept bb
              have Fm18 := Fm14.kept bb
              have bm18 := bel_tr bm14 bb
              clear bb
              clear Am14 Fm14 bm14
              obtain ⟨Wm19, hWm19⟩ : ∃ W, Wm18.alloc (.cells #[.int .i64 0, .int .u64 0, .int .u64 0] 30) = W := ⟨_, rfl⟩
              have bm19 := bel_al bm18 hWm19
              have Am19 := Am18.al hWm19
              have Fm19 := Fm18.al hWm19
              have Bm19 := blk_nw hWm19
              have gB : w.heap.size ≤ Wm18.heap.size := bm18.size
              have nAB : w.heap.size ≠ Wm18.heap.size := by have := Am18.lt; omega
              have nBA : Wm18.heap.size ≠ w.heap.size := fun e => nAB e.symm
              have nFB : bs ≠ Wm18.heap.size := by have := Fm18.lt; omega
              have nBF : Wm18.heap.size ≠ bs := fun e => nFB e.symm
              obtain ⟨Wm20, hWm20⟩ : ∃ W, Wm19.setRow Wm18.heap.size (Ad.va fa) = W := ⟨_, rfl⟩
              have Bm20 : Blk Wm20 Wm18.heap.size 30 (Ad.va fa) := hWm20 ▸ Bm19.set (Ad.va fa)
              have Am20 := hWm20 ▸ Am19.other nAB (Ad.va fa)
              have Fm20 := hWm20 ▸ Fm19.other nFB (Ad.va fa)
              have bm20 := hWm20 ▸ below_setRow bm19 gB (Ad.va fa)
              rename_i Kr hkr Kc hkc
              have HK : Hid _ := hkr
              clear hkr
              go_wp2_with (guard_target =~ wpList _ _ _ ({ dst := none, op := Op.store _ _ _, type := _, pos := _, after := _, guard := none } :: _) _ _; refine wpList_store_row rfl _ _ _ rfl Wm18.heap.size (Ad.va fa) (by rfl) (by rfl) _ _ Bm19 (by kernel_rfl) (by rfl) (by kernel_rfl) ?_; rw [hWm20])
              refine HK.out _ _ ?_
              clear HK
              have c21 := Fm20.cell 3 (.string p) rfl
              go_wp2_with fail
              clear c21
              refine Calls.mono (KO.out _) ?_
              rintro e Wm22 ⟨rfl, bb⟩
              have Am22 := Am20.kept bb
              have Fm22 := Fm20.kept bb
              have Bm22 := Bm20.kept bb
              have bm22 := bel_tr bm20 bb
              clear bb
              clear Am20 Fm20 Bm20 bm20
              cases hq23 : (pe != 0) with
              | false =>
                cases hq24 : pk with
                | false =>
                  rename_i Kr hkr Kc hkc
                  have HK : Hid _ := hkr
                  clear hkr
                  go_wp2_with fail
                  refine HK.out _ _ ?_
                  clear HK
                  repeat (apply wp_seq_k; intro _ _)
                  rename_i Kr hkr
                  have HK : Hid _ := hkr
                  clear hkr
                  go_wp2_with fail
                  refine HK.out _ _ ?_
                  clear HK
                  obtain ⟨Wm25, hWm25⟩ : ∃ W, Wm22.setRow w.heap.size as0.v = W := ⟨_, rfl⟩
                  have Am25 : Blk Wm25 w.heap.size 32 as0.v := hWm25 ▸ Am22.set as0.v
                  have Fm25 := hWm25 ▸ Fm22.other nFA as0.v
                  have Bm25 := hWm25 ▸ Bm22.other nBA as0.v
                  have bm25 := hWm25 ▸ below_setRow bm22 gA as0.v
                  go_wp2_with (guard_target =~ wpList _ _ _ ({ dst := none, op := Op.store _ _ _, type := _, pos := _, after := _, guard := none } :: _) _ _; refine wpList_store_row rfl _ _ _ rfl w.heap.size as0.v (by rfl) (by rfl) _ _ Am22 (by kernel_rfl) (by rfl) (by kernel_rfl) ?_; rw [hWm25])
                  have hZ2 : Z = none := by rw [← HZ.out]; simp [(show x0.data.toList = [] from by have := hq2; rw [em_ft] at this; exact of_decide_eq_true this), (show e.data.toList = [] from by have := hq7; rw [em_ft] at this; exact of_decide_eq_true this), hq15, (bne_f_ft hq23), hq24]
                  subst hZ2
                  exact ret_cell_tmp (k := 4) (j := 5) (v := .bool false) Tryd.f24 (by kernel_rfl) Am25 Tryd.underlying32 (by kernel_rfl) (by rfl) (by rfl) rfl ⟨rfl, bm25⟩

                | true =>
                  cases hq27 : (fa.fam != fam) with
                  | false =>
                    cases hq30 : (n.toList == [49]) with
                    | false =>
                      cases hq33 : (n.toList == [50]) with
                      | false =>
                        rename_i Kr hkr Kc hkc
                        have HK : Hid _ := hkr
                        clear hkr
                        go_wp2_with fail
                        refine HK.out _ _ ?_
                        clear HK
                        have c34 := Bm22.cell 0 (.int .i64 fa.fam) rfl
                        have c35 := Fm22.cell 1 (.string n) rfl
                        repeat (apply wp_seq_k; intro _ _)
                        rename_i Kr hkr
                        have HK : Hid _ := hkr
                        clear hkr
                        go_wp2_with fail
                        refine HK.out _ _ ?_
                        clear HK
                        clear c34 c35
                        obtain ⟨Wm36, hWm36⟩ : ∃ W, Wm22.setRow w.heap.size as0.v = W := ⟨_, rfl⟩
                        have Am36 : Blk Wm36 w.heap.size 32 as0.v := hWm36 ▸ Am22.set as0.v
                        have Fm36 := hWm36 ▸ Fm22.other nFA as0.v
                        have Bm36 := hWm36 ▸ Bm22.other nBA as0.v
                        have bm36 := hWm36 ▸ below_setRow bm22 gA as0.v
                        go_wp2_with (guard_target =~ wpList _ _ _ ({ dst := none, op := Op.store _ _ _, type := _, pos := _, after := _, guard := none } :: _) _ _; refine wpList_store_row rfl _ _ _ rfl w.heap.size as0.v (by rfl) (by rfl) _ _ Am22 (by kernel_rfl) (by rfl) (by kernel_rfl) ?_; rw [hWm36])
                        have hZ2 : Z = none := by rw [← HZ.out]; simp [(show x0.data.toList = [] from by have := hq2; rw [em_ft] at this; exact of_decide_eq_true this), (show e.data.toList = [] from by have := hq7; rw [em_ft] at this; exact of_decide_eq_true this), hq15, (bne_f_ft hq23), hq24, (bne_f_ft hq27), (show ¬ n.data.toList = [49] from by have := hq30; rw [ebeq_ft] at this; exact of_decide_eq_false this), (show ¬ n.data.toList = [50] from by have := hq33; rw [ebeq_ft] at this; exact of_decide_eq_false this)]
                        subst hZ2
                        exact ret_cell_tmp (k := 4) (j := 5) (v := .bool false) Tryd.f24 (by kernel_rfl) Am36 Tryd.underlying32 (by kernel_rfl) (by rfl) (by rfl) rfl ⟨rfl, bm36⟩

                      | true =>
                        cases hq39 : (fam == 6) with
                        | false =>
                          rename_i Kr hkr Kc hkc
                          have HK : Hid _ := hkr
                          clear hkr
                          go_wp2_with fail
                          refine HK.out _ _ ?_
                          clear HK
                          have c40 := Bm22.cell 0 (.int .i64 fa.fam) rfl
                          have c41 := Fm22.cell 1 (.string n) rfl
                          repeat (apply wp_seq_k; intro _ _)
                          rename_i Kr hkr
                          have HK : Hid _ := hkr
                          clear hkr
                          go_wp2_with fail
                          refine HK.out _ _ ?_
                          clear HK
                          clear c40 c41
                          obtain ⟨Wm42, hWm42⟩ : ∃ W, Wm22.setRow w.heap.size as0.v = W := ⟨_, rfl⟩
                          have Am42 : Blk Wm42 w.heap.size 32 as0.v := hWm42 ▸ Am22.set as0.v
                          have Fm42 := hWm42 ▸ Fm22.other nFA as0.v
                          have Bm42 := hWm42 ▸ Bm22.other nBA as0.v
                          have bm42 := hWm42 ▸ below_setRow bm22 gA as0.v
                          go_wp2_with (guard_target =~ wpList _ _ _ ({ dst := none, op := Op.store _ _ _, type := _, pos := _, after := _, guard := none } :: _) _ _; refine wpList_store_row rfl _ _ _ rfl w.heap.size as0.v (by rfl) (by rfl) _ _ Am22 (by kernel_rfl) (by rfl) (by kernel_rfl) ?_; rw [hWm42])
                          have hZ2 : Z = none := by rw [← HZ.out]; simp [(show x0.data.toList = [] from by have := hq2; rw [em_ft] at this; exact of_decide_eq_true this), (show e.data.toList = [] from by have := hq7; rw [em_ft] at this; exact of_decide_eq_true this), hq15, (bne_f_ft hq23), hq24, (bne_f_ft hq27), (show ¬ n.data.toList = [49] from by have := hq30; rw [ebeq_ft] at this; exact of_decide_eq_false this), (show n.data.toList = [50] from by have := hq33; rw [ebeq_ft] at this; exact of_decide_eq_true this), (ne_of_beq_false hq39)]
                          subst hZ2
                          exact ret_cell_tmp (k := 4) (j := 5) (v := .bool false) Tryd.f24 (by kernel_rfl) Am42 Tryd.underlying32 (by kernel_rfl) (by rfl) (by rfl) rfl ⟨rfl, bm42⟩

                        | true =>
                          rename_i Kr hkr Kc hkc
                          have HK : Hid _ := hkr
                          clear hkr
                          go_wp2_with fail
                          refine HK.out _ _ ?_
                          clear HK
                          have c43 := Bm22.cell 0 (.int .i64 fa.fam) rfl
                          have c44 := Fm22.cell 1 (.string n) rfl
                          repeat (apply wp_seq_k; intro _ _)
                          rename_i Kr hkr
                          have HK : Hid _ := hkr
                          clear hkr
                          go_wp2_with fail
                          refine HK.out _ _ ?_
                          clear HK
                          clear c43 c44
                          obtain ⟨Wm45, hWm45⟩ : ∃ W, Wm22.setRow w.heap.size (As.v ⟨6, fa, pn⟩) = W := ⟨_, rfl⟩
                          have Am45 : Blk Wm45 w.heap.size 32 (As.v ⟨6, fa, pn⟩) := hWm45 ▸ Am22.set (As.v ⟨6, fa, pn⟩)
                          have Fm45 := hWm45 ▸ Fm22.other nFA (As.v ⟨6, fa, pn⟩)
                          have Bm45 := hWm45 ▸ Bm22.other nBA (As.v ⟨6, fa, pn⟩)
                          have bm45 := hWm45 ▸ below_setRow bm22 gA (As.v ⟨6, fa, pn⟩)
                          go_wp2_with (first | (refine wpList_load_blk_w (by rfl) _ _ rfl Wm18.heap.size (by rfl) _ Bm22 Tryd.underlying30 (by kernel_rfl) ?_) | (guard_target =~ wpList _ _ _ ({ dst := none, op := Op.store _ _ _, type := _, pos := _, after := _, guard := none } :: _) _ _; refine wpList_store_row rfl _ _ _ rfl w.heap.size (As.v ⟨6, fa, pn⟩) (by rfl) (by rfl) _ _ Am22 (by kernel_rfl) (by rfl) (by kernel_rfl) ?_; rw [hWm45]))
                          have hZ2 : Z = some ⟨6, fa, pn⟩ := by rw [← HZ.out]; simp [(show x0.data.toList = [] from by have := hq2; rw [em_ft] at this; exact of_decide_eq_true this), (show e.data.toList = [] from by have := hq7; rw [em_ft] at this; exact of_decide_eq_true this), hq15, (bne_f_ft hq23), hq24, (bne_f_ft hq27), (show ¬ n.data.toList = [49] from by have := hq30; rw [ebeq_ft] at this; exact of_decide_eq_false this), (show n.data.toList = [50] from by have := hq33; rw [ebeq_ft] at this; exact of_decide_eq_true this), (eq_of_beq hq39)]
                          subst hZ2
                          exact ret_cell_tmp (k := 4) (j := 5) (v := .bool true) Tryd.f24 (by kernel_rfl) Am45 Tryd.underlying32 (by kernel_rfl) (by rfl) (by rfl) rfl ⟨rfl, bm45⟩



                    | true =>
                      cases hq48 : (fam == 4) with
                      | false =>
                        cases hq51 : (n.toList == [50]) with
                        | false =>
                          rename_i Kr hkr Kc hkc
                          have HK : Hid _ := hkr
                          clear hkr
                          go_wp2_with fail
                          refine HK.out _ _ ?_
                          clear HK
                          have c52 := Bm22.cell 0 (.int .i64 fa.fam) rfl
                          have c53 := Fm22.cell 1 (.string n) rfl
                          repeat (apply wp_seq_k; intro _ _)
                          rename_i Kr hkr
                          have HK : Hid _ := hkr
                          clear hkr
                          go_wp2_with fail
                          refine HK.out _ _ ?_
                          clear HK
                          clear c52 c53
                          obtain ⟨Wm54, hWm54⟩ : ∃ W, Wm22.setRow w.heap.size as0.v = W := ⟨_, rfl⟩
                          have Am54 : Blk Wm54 w.heap.size 32 as0.v := hWm54 ▸ Am22.set as0.v
                          have Fm54 := hWm54 ▸ Fm22.other nFA as0.v
                          have Bm54 := hWm54 ▸ Bm22.other nBA as0.v
                          have bm54 := hWm54 ▸ below_setRow bm22 gA as0.v
                          go_wp2_with (guard_target =~ wpList _ _ _ ({ dst := none, op := Op.store _ _ _, type := _, pos := _, after := _, guard := none } :: _) _ _; refine wpList_store_row rfl _ _ _ rfl w.heap.size as0.v (by rfl) (by rfl) _ _ Am22 (by kernel_rfl) (by rfl) (by kernel_rfl) ?_; rw [hWm54])
                          have hZ2 : Z = none := by rw [← HZ.out]; simp [(show x0.data.toList = [] from by have := hq2; rw [em_ft] at this; exact of_decide_eq_true this), (show e.data.toList = [] from by have := hq7; rw [em_ft] at this; exact of_decide_eq_true this), hq15, (bne_f_ft hq23), hq24, (bne_f_ft hq27), (show n.data.toList = [49] from by have := hq30; rw [ebeq_ft] at this; exact of_decide_eq_true this), (ne_of_beq_false hq48), (show ¬ n.data.toList = [50] from by have := hq51; rw [ebeq_ft] at this; exact of_decide_eq_false this)]
                          subst hZ2
                          exact ret_cell_tmp (k := 4) (j := 5) (v := .bool false) Tryd.f24 (by kernel_rfl) Am54 Tryd.underlying32 (by kernel_rfl) (by rfl) (by rfl) rfl ⟨rfl, bm54⟩

                        | true =>
                          cases hq57 : (fam == 6) with
                          | false =>
                            rename_i Kr hkr Kc hkc
                            have HK : Hid _ := hkr
                            clear hkr
                            go_wp2_with fail
                            refine HK.out _ _ ?_
                            clear HK
                            have c58 := Bm22.cell 0 (.int .i64 fa.fam) rfl
                            have c59 := Fm22.cell 1 (.string n) rfl
                            repeat (apply wp_seq_k; intro _ _)
                            rename_i Kr hkr
                            have HK : Hid _ := hkr
                            clear hkr
                            go_wp2_with fail
                            refine HK.out _ _ ?_
                            clear HK
                            clear c58 c59
                            obtain ⟨Wm60, hWm60⟩ : ∃ W, Wm22.setRow w.heap.size as0.v = W := ⟨_, rfl⟩
                            have Am60 : Blk Wm60 w.heap.size 32 as0.v := hWm60 ▸ Am22.set as0.v
                            have Fm60 := hWm60 ▸ Fm22.other nFA as0.v
                            have Bm60 := hWm60 ▸ Bm22.other nBA as0.v
                            have bm60 := hWm60 ▸ below_setRow bm22 gA as0.v
                            exact absurd ((show n.data.toList = [49] from by have := hq30; rw [ebeq_ft] at this; exact of_decide_eq_true this).symm.trans (show n.data.toList = [50] from by have := hq51; rw [ebeq_ft] at this; exact of_decide_eq_true this)) (by decide)

                          | true =>
                            rename_i Kr hkr Kc hkc
                            have HK : Hid _ := hkr
                            clear hkr
                            go_wp2_with fail
                            refine HK.out _ _ ?_
                            clear HK
                            have c61 := Bm22.cell 0 (.int .i64 fa.fam) rfl
                            have c62 := Fm22.cell 1 (.string n) rfl
                            repeat (apply wp_seq_k; intro _ _)
                            rename_i Kr hkr
                            have HK : Hid _ := hkr
                            clear hkr
                            go_wp2_with fail
                            refine HK.out _ _ ?_
                            clear HK
                            clear c61 c62
                            obtain ⟨Wm63, hWm63⟩ : ∃ W, Wm22.setRow w.heap.size (As.v ⟨6, fa, pn⟩) = W := ⟨_, rfl⟩
                            have Am63 : Blk Wm63 w.heap.size 32 (As.v ⟨6, fa, pn⟩) := hWm63 ▸ Am22.set (As.v ⟨6, fa, pn⟩)
                            have Fm63 := hWm63 ▸ Fm22.other nFA (As.v ⟨6, fa, pn⟩)
                            have Bm63 := hWm63 ▸ Bm22.other nBA (As.v ⟨6, fa, pn⟩)
                            have bm63 := hWm63 ▸ below_setRow bm22 gA (As.v ⟨6, fa, pn⟩)
                            exact absurd ((show n.data.toList = [49] from by have := hq30; rw [ebeq_ft] at this; exact of_decide_eq_true this).symm.trans (show n.data.toList = [50] from by have := hq51; rw [ebeq_ft] at this; exact of_decide_eq_true this)) (by decide)



                      | true =>
                        rename_i Kr hkr Kc hkc
                        have HK : Hid _ := hkr
                        clear hkr
                        go_wp2_with fail
                        refine HK.out _ _ ?_
                        clear HK
                        have c64 := Bm22.cell 0 (.int .i64 fa.fam) rfl
                        have c65 := Fm22.cell 1 (.string n) rfl
                        repeat (apply wp_seq_k; intro _ _)
                        rename_i Kr hkr
                        have HK : Hid _ := hkr
                        clear hkr
                        go_wp2_with fail
                        refine HK.out _ _ ?_
                        clear HK
                        clear c64 c65
                        obtain ⟨Wm66, hWm66⟩ : ∃ W, Wm22.setRow w.heap.size (As.v ⟨6, fa, pn⟩) = W := ⟨_, rfl⟩
                        have Am66 : Blk Wm66 w.heap.size 32 (As.v ⟨6, fa, pn⟩) := hWm66 ▸ Am22.set (As.v ⟨6, fa, pn⟩)
                        have Fm66 := hWm66 ▸ Fm22.other nFA (As.v ⟨6, fa, pn⟩)
                        have Bm66 := hWm66 ▸ Bm22.other nBA (As.v ⟨6, fa, pn⟩)
                        have bm66 := hWm66 ▸ below_setRow bm22 gA (As.v ⟨6, fa, pn⟩)
                        go_wp2_with (first | (refine wpList_load_blk_w (by rfl) _ _ rfl Wm18.heap.size (by rfl) _ Bm22 Tryd.underlying30 (by kernel_rfl) ?_) | (guard_target =~ wpList _ _ _ ({ dst := none, op := Op.store _ _ _, type := _, pos := _, after := _, guard := none } :: _) _ _; refine wpList_store_row rfl _ _ _ rfl w.heap.size (As.v ⟨6, fa, pn⟩) (by rfl) (by rfl) _ _ Am22 (by kernel_rfl) (by rfl) (by kernel_rfl) ?_; rw [hWm66]))
                        have hZ2 : Z = some ⟨6, fa, pn⟩ := by rw [← HZ.out]; simp [(show x0.data.toList = [] from by have := hq2; rw [em_ft] at this; exact of_decide_eq_true this), (show e.data.toList = [] from by have := hq7; rw [em_ft] at this; exact of_decide_eq_true this), hq15, (bne_f_ft hq23), hq24, (bne_f_ft hq27), (show n.data.toList = [49] from by have := hq30; rw [ebeq_ft] at this; exact of_decide_eq_true this), (eq_of_beq hq48)]
                        subst hZ2
                        exact ret_cell_tmp (k := 4) (j := 5) (v := .bool true) Tryd.f24 (by kernel_rfl) Am66 Tryd.underlying32 (by kernel_rfl) (by rfl) (by rfl) rfl ⟨rfl, bm66⟩



                  | true =>
                    rename_i Kr hkr Kc hkc
                    have HK : Hid _ := hkr
                    clear hkr
                    go_wp2_with fail
                    refine HK.out _ _ ?_
                    clear HK
                    have c67 := Bm22.cell 0 (.int .i64 fa.fam) rfl
                    repeat (apply wp_seq_k; intro _ _)
                    rename_i Kr hkr
                    have HK : Hid _ := hkr
                    clear hkr
                    go_wp2_with fail
                    refine HK.out _ _ ?_
                    clear HK
                    clear c67
                    obtain ⟨Wm68, hWm68⟩ : ∃ W, Wm22.setRow w.heap.size as0.v = W := ⟨_, rfl⟩
                    have Am68 : Blk Wm68 w.heap.size 32 as0.v := hWm68 ▸ Am22.set as0.v
                    have Fm68 := hWm68 ▸ Fm22.other nFA as0.v
                    have Bm68 := hWm68 ▸ Bm22.other nBA as0.v
                    have bm68 := hWm68 ▸ below_setRow bm22 gA as0.v
                    go_wp2_with (guard_target =~ wpList _ _ _ ({ dst := none, op := Op.store _ _ _, type := _, pos := _, after := _, guard := none } :: _) _ _; refine wpList_store_row rfl _ _ _ rfl w.heap.size as0.v (by rfl) (by rfl) _ _ Am22 (by kernel_rfl) (by rfl) (by kernel_rfl) ?_; rw [hWm68])
                    have hZ2 : Z = none := by rw [← HZ.out]; simp [(show x0.data.toList = [] from by have := hq2; rw [em_ft] at this; exact of_decide_eq_true this), (show e.data.toList = [] from by have := hq7; rw [em_ft] at this; exact of_decide_eq_true this), hq15, (bne_f_ft hq23), hq24, (bne_t_ft hq27)]
                    subst hZ2
                    exact ret_cell_tmp (k := 4) (j := 5) (v := .bool false) Tryd.f24 (by kernel_rfl) Am68 Tryd.underlying32 (by kernel_rfl) (by rfl) (by rfl) rfl ⟨rfl, bm68⟩



              | true =>
                rename_i Kr hkr Kc hkc
                have HK : Hid _ := hkr
                clear hkr
                go_wp2_with fail
                refine HK.out _ _ ?_
                clear HK
                repeat (apply wp_seq_k; intro _ _)
                rename_i Kr hkr
                have HK : Hid _ := hkr
                clear hkr
                go_wp2_with fail
                refine HK.out _ _ ?_
                clear HK
                obtain ⟨Wm69, hWm69⟩ : ∃ W, Wm22.setRow w.heap.size as0.v = W := ⟨_, rfl⟩
                have Am69 : Blk Wm69 w.heap.size 32 as0.v := hWm69 ▸ Am22.set as0.v
                have Fm69 := hWm69 ▸ Fm22.other nFA as0.v
                have Bm69 := hWm69 ▸ Bm22.other nBA as0.v
                have bm69 := hWm69 ▸ below_setRow bm22 gA as0.v
                go_wp2_with (guard_target =~ wpList _ _ _ ({ dst := none, op := Op.store _ _ _, type := _, pos := _, after := _, guard := none } :: _) _ _; refine wpList_store_row rfl _ _ _ rfl w.heap.size as0.v (by rfl) (by rfl) _ _ Am22 (by kernel_rfl) (by rfl) (by kernel_rfl) ?_; rw [hWm69])
                have hZ2 : Z = none := by rw [← HZ.out]; simp [(show x0.data.toList = [] from by have := hq2; rw [em_ft] at this; exact of_decide_eq_true this), (show e.data.toList = [] from by have := hq7; rw [em_ft] at this; exact of_decide_eq_true this), hq15, (bne_t_ft hq23)]
                subst hZ2
                exact ret_cell_tmp (k := 4) (j := 5) (v := .bool false) Tryd.f24 (by kernel_rfl) Am69 Tryd.underlying32 (by kernel_rfl) (by rfl) (by rfl) rfl ⟨rfl, bm69⟩
end Go.Proofs.YtnadfacbfcdkgaaDoor
