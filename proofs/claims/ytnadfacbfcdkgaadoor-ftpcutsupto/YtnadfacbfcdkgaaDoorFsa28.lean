/- Texts joined: FtI -/
import Derived.Test.YtnadfacbfcdkgaaDoorFsa27
namespace Go.Proofs.YtnadfacbfcdkgaaDoor
open Go.RowKit
set_option linter.unusedVariables false
set_option linter.unusedSimpArgs false
def upK (l : List UInt8) (k : Nat) : List UInt8 := (l.take k).map upB ++ l.drop k
theorem upK_len (l : List UInt8) (k : Nat) : (upK l k).length = l.length := by unfold upK; simp; omega
theorem upK_get (l : List UInt8) (k i : Nat) : (upK l k)[i]? = if i < k then (l[i]?).map upB else l[i]? := by
  unfold upK
  by_cases hk : k ≤ l.length
  · rw [List.getElem?_append, List.length_map, List.length_take, Nat.min_eq_left hk]
    by_cases h : i < k
    · rw [if_pos h, if_pos h, List.getElem?_map, List.getElem?_take_of_lt h]
    · rw [if_neg h, if_neg h, List.getElem?_drop, show k + (i - k) = i by omega]
  · rw [List.take_of_length_le (by omega), List.drop_eq_nil_of_le (by omega), List.append_nil, List.getElem?_map]
    by_cases h : i < k
    · rw [if_pos h]
    · rw [if_neg h, List.getElem?_eq_none (by omega)]; rfl
theorem upK_at (l : List UInt8) (k : Nat) (h : k < l.length) : (upK l k)[k]'(by rw [upK_len]; exact h) = l[k] := by
  have e := upK_get l k k
  rw [if_neg (Nat.lt_irrefl _), List.getElem?_eq_getElem (by rw [upK_len]; exact h), List.getElem?_eq_getElem h] at e
  exact Option.some.inj e
theorem upK_set (l : List UInt8) (k : Nat) (h : k < l.length) : (upK l k).set k (upB l[k]) = upK l (k + 1) := by
  refine List.ext_getElem? fun i => ?_
  rw [List.getElem?_set, upK_get, upK_get]
  by_cases e : k = i
  · subst e
    rw [if_pos rfl, if_pos (by rw [upK_len]; exact h), if_pos (by omega), List.getElem?_eq_getElem h]
    rfl
  · rw [if_neg e]
    by_cases h1 : i < k
    · rw [if_pos h1, if_pos (by omega)]
    · rw [if_neg h1, if_neg (by omega)]
theorem upK_same (l : List UInt8) (k : Nat) (h : k < l.length) (e : upB l[k] = l[k]) : upK l (k + 1) = upK l k := by
  rw [← upK_set l k h, e]
  conv => lhs; rw [← upK_at l k h]
  exact List.set_getElem_self _
theorem upK_end (l : List UInt8) (k : Nat) (h : l.length ≤ k) : upK l k = l.map upB := by unfold upK; rw [List.take_of_length_le h, List.drop_eq_nil_of_le h, List.append_nil]
set_option maxRecDepth 100000 in
set_option maxHeartbeats 2000000 in
theorem rupper_ft (s : ByteArray) (w : World) (hs : s.size ≤ 4294967280) :
    Calls Tryd.prog 22 #[.string s] w fun e w' => e = .returned (.string ⟨(s.data.toList.map upB).toArray⟩) ∧ Below w.heap.size w w' := by
  have es : s.data.toList.length = s.size := Array.length_toList
  have hcv : (convert 9 22 (.string s)).run Tryd.prog w = .ok (.slice (some ⟨w.heap.size, 0, none⟩) s.size (grownCap w s.size 0 5)) (w.drew.alloc (.cells (bytesRow s (grownCap w s.size 0 5)) 5 ((bytesRow s (grownCap w s.size 0 5)).size, (bytesRow s (grownCap w s.size 0 5)).size + 1))) := run_bytes_of_string w 9 22 5 s Tryd.underlying9 Tryd.underlying22 Tryd.underlying5
  obtain ⟨cp, hcp⟩ : ∃ cp, grownCap w s.size 0 5 = cp := ⟨_, rfl⟩
  have hcs : s.size ≤ cp := by rw [← hcp]; exact grownCap_ge w s.size 0 5
  rw [hcp] at hcv
  obtain ⟨W1, hW1⟩ : ∃ W, w.drew.alloc (.cells (bytesRow s cp) 5 ((bytesRow s cp).size, (bytesRow s cp).size + 1)) = W := ⟨_, rfl⟩
  have hbs : (bytesRow s cp).size = cp := by unfold bytesRow; simp; omega
  have B1 : Bs w.heap.size s.data.toList W1 := by rw [← hW1]; exact bs_new w s cp hcs _ (by show s.size ≤ (bytesRow s cp).size; omega)
  rw [hW1] at hcv
  have b1 : Below w.heap.size w W1 := by rw [← hW1]; exact (Below.refl _ _).drew.alloc (Nat.le_refl _) _
  obtain ⟨g, hg⟩ : ∃ g, w.heap.size = g := ⟨_, rfl⟩
  rw [hg] at hcv B1 b1
  obtain ⟨l, hl⟩ : ∃ l, s.data.toList = l := ⟨_, rfl⟩
  rw [hl] at es B1 ⊢
  have HS : Hid (s.size = l.length) := es.symm
  have HG : Hid (w.heap.size = g) := hg
  clear hl es hcp hbs hW1
  go_enter Tryd.func22, Tryd.ntmps22
  go_wp2
  clear hcv hg
  go_loopw [4] (fun i w' => ∃ (k : Nat), i = .int .i64 k ∧ k ≤ s.size ∧ Bs g (upK l k) w' ∧ Below g W1 w') (fun i _ => s.size - (intOf i).toNat)
  case atStart => exact ⟨0, rfl, by omega, B1, Below.refl _ _⟩
  case round =>
    obtain ⟨k, rfl, hk, hB, hbel⟩ := hrel
    by_cases hlt : k < s.size
    · have hkl : k < l.length := by have := HS.out; omega
      have hku : k < (upK l k).length := by rw [upK_len]; exact hkl
      have hc := hB.cell k hku
      have hf := hB.free k hku
      have hS := hB.set k hku (upB l[k])
      rw [upK_set l k hkl] at hS
      rw [upK_at l k hkl] at hc
      have hsame := upK_same l k hkl
      have hub : upB l[k] = if 97 ≤ l[k].toNat ∧ l[k].toNat ≤ 122 then l[k] - 32 else l[k] := rfl
      obtain ⟨x, hx⟩ : ∃ x, l[k] = x := ⟨_, rfl⟩
      rw [hx] at hc hS hsame hub
      obtain ⟨c, hcc⟩ : ∃ c, x.toNat = c := ⟨_, rfl⟩
      rw [hcc] at hc hub
      have hc8 : c < 256 := by rw [← hcc]; exact x.toNat_lt
      by_cases hlo : 97 ≤ c ∧ c ≤ 122
      · rw [if_pos hlo] at hub
        have hy : (upB x).toNat = c - 32 := by rw [hub, UInt8.toNat_sub_of_le _ _ (by rw [UInt8.le_iff_toNat_le, hcc]; show 32 ≤ c; omega), hcc]; rfl
        rw [hy, show ((c - 32 : Nat) : Int) = (c : Int) - 32 by omega] at hS
        have hbs : Below g W1 (wr.setCell ⟨g, k, none⟩ (.int .u8 ((c : Int) - 32))) := hbel.setCell (Nat.le_refl _) _
        obtain ⟨h1, h2⟩ := hlo
        clear hsame hub hcc hx hy hku hkl hB
        go_wp2
        exact ⟨⟨k + 1, int_eq (by omega), by omega, hS, hbs⟩, by simp [intOf]; omega⟩
      · rw [if_neg hlo] at hub
        have hB2 : Bs g (upK l (k + 1)) wr := by rw [hsame hub]; exact hB
        clear hsame hub hcc hx hku hkl hB hS
        rcases (by omega : c < 97 ∨ (97 ≤ c ∧ 122 < c)) with h | ⟨h, h'⟩
        · go_wp2
          exact ⟨⟨k + 1, int_eq (by omega), by omega, hB2, hbel⟩, by simp [intOf]; omega⟩
        · go_wp2
          exact ⟨⟨k + 1, int_eq (by omega), by omega, hB2, hbel⟩, by simp [intOf]; omega⟩
    · have e : upK l k = l.map upB := upK_end l k (by have := HS.out; omega)
      rw [e] at hB
      have hst := hB.str cp
      rw [List.length_map, ← HS.out] at hst
      have hg := HG.out
      have be : Below w.heap.size w wr := by rw [hg]; exact b1.trans (hbel.mono (by have := b1.size; omega))
      clear hB e hg
      go_wp2
      go_ret
      exact ⟨rfl, be⟩
theorem sixD_eq (l : List UInt8) : sixD l = match (if (spl 44 l).length = 6 then qsGo (spl 44 l) [] else none) with | some b => (if b.getD 4 0 * 256 + b.getD 5 0 = 0 then none else some ⟨6, (fromB (b.take 4)).1, b.getD 4 0 * 256 + b.getD 5 0⟩) | none => none := by
  unfold sixD
  split <;> rfl
set_option maxRecDepth 100000 in
set_option maxHeartbeats 4000000 in
theorem rsix_ft (s : ByteArray) (w : World) (hs : s.size ≤ 4294967280) :
    Calls Tryd.prog 23 #[.string s] w fun e w' => e = .returned (askV (sixD s.data.toList)) ∧ Below w.heap.size w w' := by
  obtain ⟨T, hT⟩ : ∃ T, (if (spl 44 s.data.toList).length = 6 then qsGo (spl 44 s.data.toList) [] else none) = T := ⟨_, rfl⟩
  rw [sixD_eq, hT]
  have HT : Hid _ := hT
  obtain ⟨Z, hZ⟩ : ∃ Z, (match T with | some b => (if b.getD 4 0 * 256 + b.getD 5 0 = 0 then none else some (⟨6, (fromB (b.take 4)).1, b.getD 4 0 * 256 + b.getD 5 0⟩ : As)) | none => none) = Z := ⟨_, rfl⟩
  rw [hZ]
  have HZ : Hid _ := hZ
  clear hT hZ
  obtain ⟨W0, hW0⟩ : ∃ W, w.alloc (.cells #[.int .i64 0, .int .i64 0, .int .u64 0, .int .u64 0, .int .i64 0] 32) = W := ⟨_, rfl⟩
  have b0 := bel_nw hW0
  have A0 : Blk W0 w.heap.size 32 as0.v := blk_nw hW0
  have z0 : w.heap.size < W0.heap.size := by rw [← hW0]; simp
  have KS : Hid (Calls Tryd.prog 34 #[.string s, .int .u8 44] W0 fun e w' => ∃ a k xs, e = .returned (.slice a xs.length k) ∧ GotS W0 (spl 44 s.data.toList) w' a k xs) := rsplit_any s 44 44 rfl W0 (by omega)
  have hsub := spl_sub 44 s.data.toList
  have es : s.data.toList.length = s.size := Array.length_toList
  go_enter Tryd.func23, Tryd.ntmps23
  go_wp2_with fail
  refine Calls.mono KS.out ?_
  rintro e W ⟨aw, kw, ws, rfl, gs⟩
  have A1 := A0.kept gs.below
  have b1 := bel_tr b0 gs.below
  have z1 := gs.below.size
  have hsz : ∀ x ∈ ws, x.size ≤ 4294967280 := fun x hx => by
    have h1 : x.data.toList ∈ spl 44 s.data.toList := by rw [← gs.parts]; exact List.mem_map_of_mem hx
    have h2 := hsub _ h1
    have h3 : x.data.toList.length = x.size := Array.length_toList
    omega
  have hrw := gs.owns.row
  have HP : Hid (ws.map (·.data.toList) = spl 44 s.data.toList) := gs.parts
  clear gs KS A0 b0 hsub hW0
  by_cases h6 : ws.length = 6
  case neg =>
    have hTn : T = none := by rw [← HT.out, if_neg]; rw [← HP.out]; simpa using h6
    have hZn : Z = none := by rw [← HZ.out, hTn]
    subst hZn
    have h6a : ¬ ((ws.length : Int) = 6) := by omega
    clear hTn HT HZ
    go_wp2_with (refine wpList_store_ft rfl 32 _ _ rfl w.heap.size as0.v as0.v (by rfl) (by rfl) A1 (info_as _ _ _ _ _) rfl (by simp [Value.oneCell']) ?_)
    exact ret_cell_tmp (k := 2) (j := 3) Tryd.f23 (by kernel_rfl) (A1.set as0.v) Tryd.underlying32 (info_as _ _ _ _ _) (by rfl) (by rfl) rfl ⟨rfl, below_setRow b1 (Nat.le_refl _) _⟩
  have HTq : Hid (qsGo ((ws.drop 0).map (·.data.toList)) [] = T) := by show _ = _; rw [← HT.out, if_pos (by rw [← HP.out]; simpa using h6), ← HP.out]; rfl
  obtain ⟨bs, offs, rfl, hcs⟩ := hrw (by omega)
  have L6 : Hid (ws.length = 6) := h6
  have h6b : ((ws.length : Int) = 6) := by omega
  clear h6 HT HP
  go_wp2
  clear h6b
  obtain ⟨B, hB⟩ : ∃ B, W.heap.size = B := ⟨_, rfl⟩
  have HB : Hid (B = W.heap.size) := hB.symm
  clear hB
  go_loopw [5, 6] (fun b i w' => ∃ (k : Nat) (r : List Int) (a : Option Addr) (c : Nat), k ≤ 6 ∧ i = .int .i64 k ∧ b = .slice a r.length c ∧ r.length ≤ k ∧ M.Bytes r ∧ Owns w' B (.slice a r.length c) r ∧ Below B W w' ∧ Hid (qsGo ((ws.drop k).map (·.data.toList)) r = T)) (fun _ i _ => 6 - (intOf i).toNat)
  case atStart => exact ⟨0, [], none, 0, Nat.zero_le _, rfl, rfl, Nat.le_refl _, M.Bytes.nil, Owns.nil _ _, Below.refl _ _, HTq⟩
  case round =>
    obtain ⟨k, r, a, c, hk, rfl, rfl, hrl, hby, own, bel, hr⟩ := hrel
    have zr := bel.size
    have hwB := HB.out
    have Ar : Blk wr w.heap.size 32 as0.v := A1.below bel (by omega)
    have br : Below w.heap.size w wr := b1.trans (bel.mono (by omega))
    by_cases hlt : k < 6
    · have hlw : k < ws.length := by have := L6.out; omega
      have hc : wr.cell? ⟨bs, offs + k, none⟩ = some (.string (ws[k]'hlw)) := by
        have h := hcs k _ (List.getElem?_eq_getElem hlw)
        exact (bel.cell (p := ⟨bs, offs + k, none⟩) (by have := World.block_lt_of_cell? _ _ h; show bs < B; simp only at this; omega)).trans h
      have hr1 := hr.out
      rw [List.drop_eq_getElem_cons hlw, List.map_cons] at hr1
      have hx := hsz _ (List.getElem_mem hlw)
      generalize ws[k] = x at hc hr1 hx
      have hbd := num_bd 255 x.data.toList
      have KG : Hid (∀ W, Calls Tryd.prog 35 #[.string x, .int .i64 10, .int .i64 255] W fun e w' => e = .returned (.tuple #[.int .i64 (num 255 x.data.toList).1, .bool (num 255 x.data.toList).2]) ∧ w' = W) := fun W => by
        have h := rnum10_any x 255 W (by omega) (by omega) (by omega)
        rw [rnum10 255 (by omega)] at h
        exact h
      unfold qsGo at hr1
      generalize hgd : num 255 x.data.toList = g at *
      obtain ⟨n, ok⟩ := g
      simp only at hr1 hbd KG
      have HQ : Hid ((if ok = true then qsGo ((ws.drop (k + 1)).map (·.data.toList)) (r ++ [n]) else none) = T) := hr1
      have ilt : (k : Int) < 6 := by omega
      have h6b : ((ws.length : Int) = 6) := by have := L6.out; omega
      clear hr hr1 hgd hx
      cases ok with
      | false =>
        have hTn : T = none := by have := HQ.out; simpa using this.symm
        have hZn : Z = none := by rw [← HZ.out, hTn]
        subst hZn
        clear hTn HQ HZ bel own hcs HTq
        go_wp2_with fail
        refine Calls.mono (KG.out _) ?_
        rintro e W3 ⟨rfl, rfl⟩
        go_wp2_with (refine wpList_store_ft rfl 32 _ _ rfl w.heap.size as0.v as0.v (by rfl) (by rfl) Ar (info_as _ _ _ _ _) rfl (by simp [Value.oneCell']) ?_)
        exact ret_cell_tmp (k := 2) (j := 3) Tryd.f23 (by kernel_rfl) (Ar.set as0.v) Tryd.underlying32 (info_as _ _ _ _ _) (by rfl) (by rfl) rfl ⟨rfl, below_setRow br (Nat.le_refl _) _⟩
      | true =>
        obtain ⟨q, hq0⟩ : ∃ q, r ++ [n] = q := ⟨_, rfl⟩
        have hql : q.length ≤ k + 1 := by rw [← hq0]; simp; omega
        have hq : Hid (qsGo ((ws.drop (k + 1)).map (·.data.toList)) q = T) := by have := HQ.out; rw [if_pos rfl, hq0] at this; exact this
        have HR : Hid (r ++ [n] = q) := hq0
        have hqb : M.Bytes q := by rw [← hq0]; exact hby.app (fun z hz => by simp at hz; omega)
        clear hq0 HQ Ar br
        go_wp2_with fail
        refine Calls.mono (KG.out _) ?_
        rintro e w3 ⟨rfl, hw3⟩
        subst hw3
        go_wp2_with (at_builtin; refine wpList_app2 _ rfl _ _ rfl B _ r rfl (own.alloc _) hby _ 1 [n] rfl ?row (fun hh => by cases hh) q HR.out ?c1 ?c2 ?_)
        case row =>
          refine row_at _ 5 [n] _ (by first | rfl | simp) (by simp) ?_
          intro z hz
          simp at hz
          omega
        case c1 => omega
        case c2 => simp; omega
        intro a4 c4 w4 o4 hc4 hn4 r4 b4 _
        go_wp2
        rw [← hwB] at o4 b4
        exact ⟨⟨k + 1, q, a4, c4, by omega, int_eq (by omega), rfl, hql, hqb, o4, (bel.alloc (by omega) _).trans b4, hq⟩, by simp [intOf]; omega⟩
    · have ek : k = 6 := by omega
      have hTs : T = some r := by
        have := hr.out
        rw [List.drop_eq_nil_of_le (by have := L6.out; omega)] at this
        exact this.symm
      have hr6 : r.length = 6 := by
        have h := HTq.out
        rw [hTs] at h
        have := qsGo_len _ _ _ h
        simp at this
        rw [this]; exact L6.out
      obtain ⟨hcc, hcn⟩ := owns_room' own
      obtain ⟨gb, rfl, hgB⟩ : ∃ gb, a = some ⟨gb, 0, none⟩ ∧ B ≤ gb := by
        cases a with
        | none => have := hcn rfl; omega
        | some x =>
          obtain ⟨h1, h2⟩ := own
          rcases h2 with ⟨h3, h4⟩ | ⟨g, cap, cur, h3, h4, _⟩
          · cases h3
          · simp only [Value.slice.injEq, Option.some.injEq] at h3
            obtain ⟨rfl, _, rfl⟩ := h3
            exact ⟨g, rfl, h4⟩
      have hrow := own.row (by omega) hby
      have hbd : ∀ j, 0 ≤ r.getD j 0 ∧ r.getD j 0 ≤ 255 := fun j => by
        rw [List.getD_eq_getElem?_getD]
        cases hj : r[j]? with
        | none => exact ⟨by simp, by simp⟩
        | some v =>
          have := hby v (List.mem_of_getElem? hj)
          simp only [Option.getD_some]; omega
      have Ce : B45 gb (r.getD 4 0) (r.getD 5 0) wr := ⟨by have := hrow.cell 4 (by omega); simpa using this, by have := hrow.cell 5 (by omega); simpa using this⟩
      have h4 := hbd 4
      have h5 := hbd 5
      have ht4 : (r.take 4).length = 4 := by simp; omega
      have KF0 := rfrom_any (some ⟨gb, 0, none⟩) c (r.take 4) wr (hrow.take 4)
      have hf : (fromB (r.take 4)).2 = 0 := by unfold fromB; rw [if_pos ht4]
      rw [ht4, hf] at KF0
      obtain ⟨fa, hfa⟩ : ∃ fa, (fromB (r.take 4)).1 = fa := ⟨_, rfl⟩
      have KF : Hid (Calls Tryd.prog 36 #[.slice (some ⟨gb, 0, none⟩) 4 c] wr fun e w' => e = .returned (.tuple #[.agg (Ad.va fa), .int .i64 0]) ∧ Below wr.heap.size wr w') := by rw [← hfa]; exact KF0
      obtain ⟨x4, hx4⟩ : ∃ x4, r.getD 4 0 = x4 := ⟨_, rfl⟩
      obtain ⟨x5, hx5⟩ : ∃ x5, r.getD 5 0 = x5 := ⟨_, rfl⟩
      have HZ2 : Hid ((if x4 * 256 + x5 = 0 then none else some (⟨6, fa, x4 * 256 + x5⟩ : As)) = Z) := by
        show _ = Z
        rw [← HZ.out, hTs]
        simp only
        rw [hfa, hx4, hx5]
      rw [hx4] at h4 Ce
      rw [hx5] at h5 Ce
      have wx4 : IntKind.i64.wrap x4 = x4 := wraps_i64 _ (by omega) (by omega)
      have wx5 : IntKind.i64.wrap x5 = x5 := wraps_i64 _ (by omega) (by omega)
      have wxs : IntKind.i64.wrap (x4 * 256) = x4 * 256 := wraps_i64 _ (by omega) (by omega)
      have wxo : IntKind.i64.wrap (x4 * 256 + x5) = x4 * 256 + x5 := wraps_i64 _ (by omega) (by omega)
      have Ae := Ar
      have be := br
      have nCA : gb ≠ w.heap.size := by omega
      have nAC : w.heap.size ≠ gb := by omega
      have gA : w.heap.size ≤ w.heap.size := Nat.le_refl _
      have g6 : (6 : Int) ≤ (c : Int) := by omega
      have hr6i : (r.length : Int) = 6 := by omega
      obtain ⟨We, hWe⟩ : ∃ We, wr = We := ⟨_, rfl⟩
      rw [hWe] at KF Ce Ae be ⊢
      clear hfa hbd KF0 hf hrow own hcn hr HTq hTs bel hWe ek hgB hx4 hx5 hcs hsz HZ A1 b1 Ar br hwB hby hrl
      go_wp2_with fail
      refine Calls.mono (KF.out) ?_
      rintro e Wm1 ⟨rfl, bb⟩
      have Am1 := Ae.kept bb
      have Cm1 := Ce.kept bb
      have bm1 := bel_tr be bb
      clear bb
      clear Ae Ce be
      obtain ⟨Wm2, hWm2⟩ : ∃ W, Wm1.alloc (.cells #[.int .i64 0, .int .u64 0, .int .u64 0] 30) = W := ⟨_, rfl⟩
      have bm2 := bel_al bm1 hWm2
      have Am2 := Am1.al hWm2
      have Cm2 := Cm1.al hWm2
      have Bm2 := blk_nw hWm2
      have gB : w.heap.size ≤ Wm1.heap.size := bm1.size
      have nAB : w.heap.size ≠ Wm1.heap.size := by have := Am1.lt; omega
      have nBA : Wm1.heap.size ≠ w.heap.size := fun e => nAB e.symm
      have nCB : gb ≠ Wm1.heap.size := fun e => by have := Cm1.lt; omega
      obtain ⟨Wm3, hWm3⟩ : ∃ W, Wm2.setRow Wm1.heap.size (Ad.va fa) = W := ⟨_, rfl⟩
      have Bm3 : Blk Wm3 Wm1.heap.size 30 (Ad.va fa) := hWm3 ▸ Bm2.set (Ad.va fa)
      have Am3 := hWm3 ▸ Am2.other nAB (Ad.va fa)
      have Cm3 := hWm3 ▸ Cm2.other nCB (Ad.va fa)
      have bm3 := hWm3 ▸ below_setRow bm2 gB (Ad.va fa)
      rename_i Kr hkr Kc hkc
      have HK : Hid _ := hkr
      clear hkr
      go_wp2_with (guard_target =~ wpList _ _ _ ({ dst := none, op := Op.store _ _ _, type := _, pos := _, after := _, guard := none } :: _) _ _; refine wpList_store_row rfl _ _ _ rfl Wm1.heap.size (Ad.va fa) (by rfl) (by rfl) _ _ Bm2 (by kernel_rfl) (by rfl) (by kernel_rfl) ?_; rw [hWm3])
      refine HK.out _ _ ?_
      clear HK
      go_wp2_with fail
      obtain ⟨Wdq4, hWdq4⟩ : ∃ W, Wm3.drew = W := ⟨_, rfl⟩
      have Adq4 := hWdq4 ▸ Am3.drew
      have Cdq4 := hWdq4 ▸ Cm3.drew
      have Bdq4 := hWdq4 ▸ Bm3.drew
      have bdq4 := hWdq4 ▸ bm3.drew
      refine wp_region_noPanic ?_
      refine wp_region_held_drew (S := fun w' => Blk w' w.heap.size 32 as0.v ∧ B45 gb x4 x5 w' ∧ Blk w' Wm1.heap.size 30 (Ad.va fa)) (by kernel_rfl) (by rw [hWdq4]; exact ⟨Adq4, Cdq4, Bdq4⟩) (fun hHeld => ?_)
      rw [hWdq4] at hHeld ⊢
      refine qtk (i := 0) (oi := { dst := some 44, op := Op.move (.tmp 5), type := 22, pos := "ref.go:49", after := #[], guard := none }) (v := (.slice (some ⟨gb, 0, none⟩) 6 c)) hHeld ?_ ?_
      · intro w9 hSw
        try dsimp only at hSw
        go_simp
      try simp only [qpu]
      refine qtk (i := 1) (oi := { dst := some 45, op := Op.indexAddr 22 (.tmp 44) (.const (.int .i64 4)), type := 0, pos := "ref.go:49", after := #[{ on := 0, ground := Ground.data }], guard := none }) (v := (.pointer (some ⟨gb, 4, none⟩))) hHeld ?_ ?_
      · intro w9 hSw
        try dsimp only at hSw
        go_simp
      try simp only [qpu]
      refine qtk (i := 2) (oi := { dst := some 46, op := Op.load 5 (.tmp 45), type := 5, pos := "ref.go:49", after := #[{ on := 1, ground := Ground.data }], guard := none }) (v := (.int .u8 x4)) hHeld ?_ ?_
      · intro w9 hSw
        try dsimp only at hSw
        have hcc := hSw.2.1.c4
        go_simp
      try simp only [qpu]
      refine qtk (i := 3) (oi := { dst := some 47, op := Op.convert 5 3 (.tmp 46), type := 3, pos := "ref.go:49", after := #[{ on := 2, ground := Ground.data }], guard := none }) (v := (.int .i64 x4)) hHeld ?_ ?_
      · intro w9 hSw
        try dsimp only at hSw
        go_simp
      try simp only [qpu]
      refine qtk (i := 4) (oi := { dst := some 48, op := Op.binOp BinOp.mul 3 (.tmp 47) (.const (.int .i64 256)) 3, type := 3, pos := "ref.go:49", after := #[{ on := 3, ground := Ground.data }], guard := none }) (v := (.int .i64 (x4 * 256))) hHeld ?_ ?_
      · intro w9 hSw
        try dsimp only at hSw
        go_simp
      try simp only [qpu]
      refine qtk (i := 5) (oi := { dst := some 49, op := Op.move (.tmp 5), type := 22, pos := "ref.go:49", after := #[], guard := none }) (v := (.slice (some ⟨gb, 0, none⟩) 6 c)) hHeld ?_ ?_
      · intro w9 hSw
        try dsimp only at hSw
        go_simp
      try simp only [qpu]
      refine qtk (i := 6) (oi := { dst := some 50, op := Op.indexAddr 22 (.tmp 49) (.const (.int .i64 5)), type := 0, pos := "ref.go:49", after := #[{ on := 5, ground := Ground.data }], guard := none }) (v := (.pointer (some ⟨gb, 5, none⟩))) hHeld ?_ ?_
      · intro w9 hSw
        try dsimp only at hSw
        go_simp
      try simp only [qpu]
      refine qtk (i := 7) (oi := { dst := some 51, op := Op.load 5 (.tmp 50), type := 5, pos := "ref.go:49", after := #[{ on := 6, ground := Ground.data }], guard := none }) (v := (.int .u8 x5)) hHeld ?_ ?_
      · intro w9 hSw
        try dsimp only at hSw
        have hcc := hSw.2.1.c5
        go_simp
      try simp only [qpu]
      refine qtk (i := 8) (oi := { dst := some 52, op := Op.convert 5 3 (.tmp 51), type := 3, pos := "ref.go:49", after := #[{ on := 7, ground := Ground.data }], guard := none }) (v := (.int .i64 x5)) hHeld ?_ ?_
      · intro w9 hSw
        try dsimp only at hSw
        go_simp
      try simp only [qpu]
      refine qtk (i := 9) (oi := { dst := some 53, op := Op.binOp BinOp.add 3 (.tmp 48) (.tmp 52) 3, type := 3, pos := "ref.go:49", after := #[{ on := 4, ground := Ground.data }, { on := 8, ground := Ground.data }], guard := none }) (v := (.int .i64 ((x4 * 256) + x5))) hHeld ?_ ?_
      · intro w9 hSw
        try dsimp only at hSw
        go_simp
        try decide
      try simp only [qpu]
      refine qtk (i := 10) (oi := { dst := some 11, op := Op.assign (.tmp 53), type := 3, pos := "ref.go:49", after := #[{ on := 9, ground := Ground.data }, { on := 0, ground := Ground.phase }, { on := 1, ground := Ground.phase }, { on := 2, ground := Ground.phase }, { on := 3, ground := Ground.phase }, { on := 4, ground := Ground.phase }, { on := 5, ground := Ground.phase }, { on := 6, ground := Ground.phase }, { on := 7, ground := Ground.phase }, { on := 8, ground := Ground.phase }, { on := 9, ground := Ground.phase }], guard := none }) (v := (.int .i64 ((x4 * 256) + x5))) hHeld ?_ ?_
      · intro w9 hSw
        try dsimp only at hSw
        go_simp
      try simp only [qpu]
      refine wpAnyH_done (by kernel_rfl) ?_ _
      refine NoPanic.normal ?_
      cases hq5 : (((x4 * 256) + x5) == 0) with
      | false =>
        obtain ⟨Wm6, hWm6⟩ : ∃ W, Wdq4.setRow w.heap.size (As.v ⟨6, fa, (x4 * 256) + x5⟩) = W := ⟨_, rfl⟩
        have Am6 : Blk Wm6 w.heap.size 32 (As.v ⟨6, fa, (x4 * 256) + x5⟩) := hWm6 ▸ Adq4.set (As.v ⟨6, fa, (x4 * 256) + x5⟩)
        have Cm6 := hWm6 ▸ Cdq4.other nCA (As.v ⟨6, fa, (x4 * 256) + x5⟩)
        have Bm6 := hWm6 ▸ Bdq4.other nBA (As.v ⟨6, fa, (x4 * 256) + x5⟩)
        have bm6 := hWm6 ▸ below_setRow bdq4 gA (As.v ⟨6, fa, (x4 * 256) + x5⟩)
        go_wp2_with (first | (refine wpList_load_blk_w (by rfl) _ _ rfl Wm1.heap.size (by rfl) _ Bdq4 Tryd.underlying30 (by kernel_rfl) ?_) | (guard_target =~ wpList _ _ _ ({ dst := none, op := Op.store _ _ _, type := _, pos := _, after := _, guard := none } :: _) _ _; refine wpList_store_row rfl _ _ _ rfl w.heap.size (As.v ⟨6, fa, (x4 * 256) + x5⟩) (by rfl) (by rfl) _ _ Adq4 (by kernel_rfl) (by rfl) (by kernel_rfl) ?_; rw [hWm6]))
        have hZ2 : Z = some ⟨6, fa, (x4 * 256) + x5⟩ := by rw [← HZ2.out, if_neg (ne_of_beq_false hq5)]
        subst hZ2
        exact ret_cell_tmp (k := 2) (j := 3) (v := .bool true) Tryd.f23 (by kernel_rfl) Am6 Tryd.underlying32 (by kernel_rfl) (by rfl) (by rfl) rfl ⟨rfl, bm6⟩

      | true =>
        obtain ⟨Wm7, hWm7⟩ : ∃ W, Wdq4.setRow w.heap.size as0.v = W := ⟨_, rfl⟩
        have Am7 : Blk Wm7 w.heap.size 32 as0.v := hWm7 ▸ Adq4.set as0.v
        have Cm7 := hWm7 ▸ Cdq4.other nCA as0.v
        have Bm7 := hWm7 ▸ Bdq4.other nBA as0.v
        have bm7 := hWm7 ▸ below_setRow bdq4 gA as0.v
        go_wp2_with (guard_target =~ wpList _ _ _ ({ dst := none, op := Op.store _ _ _, type := _, pos := _, after := _, guard := none } :: _) _ _; refine wpList_store_row rfl _ _ _ rfl w.heap.size as0.v (by rfl) (by rfl) _ _ Adq4 (by kernel_rfl) (by rfl) (by kernel_rfl) ?_; rw [hWm7])
        have hZ2 : Z = none := by rw [← HZ2.out, if_pos (eq_of_beq hq5)]
        subst hZ2
        exact ret_cell_tmp (k := 2) (j := 3) (v := .bool false) Tryd.f23 (by kernel_rfl) Am7 Tryd.underlying32 (by kernel_rfl) (by rfl) (by rfl) rfl ⟨rfl, bm7⟩
end Go.Proofs.YtnadfacbfcdkgaaDoor
