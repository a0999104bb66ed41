/- Texts joined: AtF -/
import Derived.Test.YtnadfacbfcdkgaaDoorFsa10
import Derived.Test.YtnadfacbfcdkgaaDoorFsa24
import Derived.Deep.AppendLies
namespace Go.Proofs.YtnadfacbfcdkgaaDoor
open Go.RowKit
set_option linter.unusedVariables false
set_option linter.unusedSimpArgs false
theorem res3 {w wX : World} (bb : Below (w.heap.size + 1) (w.alloc (.cells #[.int .i64 0, .int .u64 0, .int .u64 0] 30)) wX) :
    wX.cell? ⟨w.heap.size, 0, none⟩ = some (.int .i64 0) ∧ wX.cell? ⟨w.heap.size, 1, none⟩ = some (.int .u64 0) ∧ wX.cell? ⟨w.heap.size, 2, none⟩ = some (.int .u64 0) ∧ (∀ o, wX.frozen? ⟨w.heap.size, o, none⟩ = false) ∧ w.heap.size < wX.heap.size ∧ Below w.heap.size w wX :=
  ⟨(bb.cell (p := ⟨w.heap.size, 0, none⟩) (by simp)).trans (by simp), (bb.cell (p := ⟨w.heap.size, 1, none⟩) (by simp)).trans (by simp), (bb.cell (p := ⟨w.heap.size, 2, none⟩) (by simp)).trans (by simp),
   fun o => (bb.frozen (p := ⟨w.heap.size, o, none⟩) (by simp)).trans (by simp), by have := bb.size; simp at this; omega, ((Below.refl _ _).alloc (Nat.le_refl _) _).trans (bb.mono (by omega))⟩
theorem index_str (s : ByteArray) (p c : Nat) (hp : p < s.size) (hc : (s[p]'hp).toNat = c) (w : World) : (Instr.index 9 (.string s) (.int .i64 (p : Int))).run Tryd.prog w = .ok (.int .u8 (c : Int)) w := by
  rw [run_index_string (P := Tryd.prog) w 9 s .i64 p (by kernel_rfl), dif_pos (by omega)]
  simp only [Int.toNat_natCast, hc]
theorem get_list (s : ByteArray) (p : Nat) (hp : p < s.size) : s.data.toList[p]? = some (s[p]'hp) := by
  have h1 : p < s.data.toList.length := by simpa using hp
  rw [List.getElem?_eq_getElem h1]
  rfl
theorem occ_two (l : List UInt8) (p : Nat) : Lib.occAt l [58, 58] p = true ↔ l[p]? = some 58 ∧ l[p + 1]? = some 58 := by
  unfold Lib.occAt
  have e0 : l[p]? = (l.drop p)[0]? := by rw [List.getElem?_drop]; rfl
  have e1 : l[p + 1]? = (l.drop p)[1]? := by rw [List.getElem?_drop]
  rw [e0, e1]
  cases l.drop p with
  | nil => simp [List.isPrefixOf]
  | cons a t => cases t with
    | nil => simp [List.isPrefixOf]
    | cons b t =>
      simp only [List.isPrefixOf, Bool.and_true, Bool.and_eq_true, beq_iff_eq, List.getElem?_cons_zero, List.getElem?_cons_succ, Option.some.injEq]
      exact ⟨fun h => ⟨h.1.symm, h.2.symm⟩, fun h => ⟨h.1.symm, h.2.symm⟩⟩
/-- append(v, y) of one byte, and where it lies. -/
theorem wpList_appL {ops : Array Oper} {rest : List Oper} {o : Oper} {ac : Act} {Q : Exit → Act → World → Prop} (w : World) (hgd : o.guard = none) (s x : Operand)
    (ho : o.op = .call { callee := .builtin .append, args := #[s, x], argTypes := #[22, 22] })
    (B : Nat) (v : Value) (xs : List Int) (hs : ac.eval s = v) (hown : Owns w B v xs)
    (ad : Addr) (c : Nat) (y : Int) (hx : ac.eval x = .slice (some ad) 1 c) (hc : w.cell? ad = some (.int .u8 y))
    (r : List Int) (hr : xs ++ [y] = r) (hsum : r.length ≤ 140737488355328) (hbase : B ≤ w.heap.size) (H : Nat) (hH : w.heap.size = H)
    (h : ∀ g cap w', Owns w' B (.slice (some ⟨g, 0, none⟩) r.length cap) r → w.grownBy w' v.ownBlock → (v.ownBlock = some g ∨ g = H) → wpList Tryd.prog ops Q rest (ac.put o.dst (.slice (some ⟨g, 0, none⟩) r.length cap)) w') : wpList Tryd.prog ops Q (o :: rest) ac w := by
  subst hr
  obtain ⟨i0, hi, hz0, hz1, hz2⟩ := info_parts info_u8
  have hl : (xs ++ [y]).length = xs.length + 1 := by simp
  refine wpList_append_lies w hgd s x 22 ho B 5 i0 (.int .u8 0) 1 1 Tryd.underlying22 hi hz0 hz1 hz2 rfl (by decide) v xs.length (xs.map (Value.int .u8)) hs hown ad 1 c [Value.int .u8 y] hx (by simp) ?_ (by intro u hu; simp at hu; rw [hu]; rfl) (by decide) (by unfold maxLen; omega) (by omega) hbase H hH ?_
  · intro j u hj
    have hjl : j = 0 := by
      have := (List.getElem?_eq_some_iff.1 hj).1
      simp at this; omega
    subst hjl
    have e1 : Addr.add ad 0 = ad := by cases ad; rfl
    rw [e1, hc]
    simpa using hj
  · intro g cap w' h1 h2 h3 _
    refine cast (by rw [hl]) (h g cap w' ?_ h2 h3)
    show w'.ownsRow B 5 1 (.slice (some ⟨g, 0, none⟩) (xs ++ [y]).length cap) (xs ++ [y]).length ((xs ++ [y]).map (Value.int .u8))
    rw [hl, List.map_append]
    exact h1
def sixB (s : List UInt8) : Ad × Int := match r6 s with
  | some b => fromB b
  | none => (⟨0, 0, 0⟩, 1)
set_option maxRecDepth 100000 in
set_option maxHeartbeats 4000000 in
theorem rsix_any (s : ByteArray) (w : World) (hs : s.size < 4294967281) :
    Calls Tryd.prog 47 #[.string s] w fun e w' => e = .returned (.tuple #[(sixB s.data.toList).1.v, .int .i64 (sixB s.data.toList).2]) ∧ Below w.heap.size w w' := by
  have e1 : s.data.toList.length = s.size := Array.length_toList
  obtain ⟨T, hT⟩ : ∃ T, sixB s.data.toList = T := ⟨_, rfl⟩
  rw [hT]
  have HT : Hid (sixB s.data.toList = T) := hT
  clear hT
  obtain ⟨⟨tf, th, tl⟩, te⟩ := T
  obtain ⟨W0, hW0⟩ : ∃ W0, w.alloc (.cells #[.int .i64 0, .int .u64 0, .int .u64 0] 30) = W0 := ⟨_, rfl⟩
  have fin : Hid (∀ wX, Below W0.heap.size W0 wX → wX.cell? ⟨w.heap.size, 0, none⟩ = some (.int .i64 0) ∧ wX.cell? ⟨w.heap.size, 1, none⟩ = some (.int .u64 0) ∧ wX.cell? ⟨w.heap.size, 2, none⟩ = some (.int .u64 0) ∧ (∀ o, wX.frozen? ⟨w.heap.size, o, none⟩ = false) ∧ w.heap.size < wX.heap.size ∧ Below w.heap.size w wX) := by
    show _
    rw [← hW0]
    intro wX bb
    exact res3 (by simpa using bb)
  have Hlen : Hid (s.data.toList.length = s.size) := e1
  clear e1
  go_enter Tryd.func47, Tryd.ntmps47
  go_wp2
  clear hW0
  go_loopw [4] (fun i w' => ∃ p : Nat, i = .int .i64 p ∧ w' = W0 ∧ p ≤ s.size ∧ Hid (∀ j, j < p → Lib.occAt s.data.toList [58, 58] j = false)) (fun i _ => s.size - (intOf i).toNat)
  case atStart => exact ⟨0, rfl, rfl, Nat.zero_le _, fun j hj => by omega⟩
  case round =>
    obtain ⟨p, rfl, hw0, hp, hno⟩ := hrel
    obtain rfl : W0 = wr := hw0.symm
    by_cases hlt : p + 1 < s.size
    · have ilt : (p : Int) + 1 < (s.size : Int) := by omega
      obtain ⟨c, hc⟩ : ∃ c, (s[p]'(by omega)).toNat = c := ⟨_, rfl⟩
      obtain ⟨d, hd⟩ : ∃ d, (s[p + 1]'hlt).toNat = d := ⟨_, rfl⟩
      have hix := index_str s p c (by omega) hc
      have hiy := index_str s (p + 1) d hlt hd
      have g1 := get_list s p (by omega)
      have g2 := get_list s (p + 1) hlt
      have occ : Lib.occAt s.data.toList [58, 58] p = true ↔ c = 58 ∧ d = 58 := by
        rw [occ_two, g1, g2, ← hc, ← hd]
        constructor
        · rintro ⟨h1, h2⟩
          rw [Option.some.inj h1, Option.some.inj h2]
          exact ⟨rfl, rfl⟩
        · rintro ⟨h1, h2⟩
          exact ⟨congrArg some (UInt8.toNat_inj.1 (by rw [h1]; rfl)), congrArg some (UInt8.toNat_inj.1 (by rw [h2]; rfl))⟩
      clear hc hd g1 g2
      replace hiy : ∀ w, (Instr.index 9 (.string s) (.int .i64 ((p : Int) + 1))).run Tryd.prog w = .ok (.int .u8 (d : Int)) w := fun w => by have := hiy w; rwa [Int.natCast_add] at this
      by_cases hcd : c = 58 ∧ d = 58
      · have hocc := occ.2 hcd
        obtain ⟨rfl, rfl⟩ := hcd
        have hidx : Lib.index s.data.toList [58, 58] = (p : Int) := Lib.index_first (by rw [Hlen.out]; omega) hocc hno.out
        have hcut : Lib.cut s.data.toList [58, 58] = (s.data.toList.take p, s.data.toList.drop (p + 2), true) := by
          unfold Lib.cut
          rw [hidx, if_pos (by omega)]
          simp
        obtain ⟨y1, hy1⟩ : ∃ y, s.extract 0 p = y := ⟨_, rfl⟩
        obtain ⟨y2, hy2⟩ : ∃ y, s.extract (p + 2) s.size = y := ⟨_, rfl⟩
        have d1 : y1.data.toList = s.data.toList.take p := by rw [← hy1, Lib.extract_data]; simp
        have d2 : y2.data.toList = s.data.toList.drop (p + 2) := by
          rw [← hy2, Lib.extract_data, List.take_of_length_le]
          rw [List.length_drop, Hlen.out]
          exact Nat.le_refl _
        have z1 : y1.size < 4294967281 := by rw [← hy1, ByteArray.size_extract]; omega
        have z2 : y2.size < 4294967281 := by rw [← hy2, ByteArray.size_extract]; omega
        have hs1 : ∀ W, (Instr.slice 9 (.string s) none (some (.int .i64 (p : Int))) none).run Tryd.prog W = .ok (.string y1) W := fun W => by
          rw [run_slice_string_to_if (P := Tryd.prog) W 9 s .i64 p (by kernel_rfl), if_pos (by omega)]
          simp only [Int.toNat_natCast, hy1]
        have hs2 : ∀ W, (Instr.slice 9 (.string s) (some (.int .i64 ((p : Int) + 2))) none none).run Tryd.prog W = .ok (.string y2) W := fun W => by
          rw [run_slice_string_from_if (P := Tryd.prog) W 9 s .i64 _ (by kernel_rfl), if_pos (by omega)]
          rw [show ((p : Int) + 2).toNat = p + 2 by omega, hy2]
        have G1 := fun w => rgroups_any y1 w z1
        have G2 := fun w => rgroups_any y2 w z2
        rw [d1] at G1
        rw [d2] at G2
        have HR : Hid ((match rgs (s.data.toList.take p), rgs (s.data.toList.drop (p + 2)) with
            | some a, some b => if 14 < a.length + b.length then none else some (a ++ List.replicate (16 - (a.length + b.length)) 0 ++ b)
            | _, _ => none) = r6 s.data.toList) := by
          show _ = _
          rw [r6, hcut, if_pos rfl]
          rfl
        have hb1 : ∀ l, rgs (s.data.toList.take p) = some l → M.Bytes l := fun l h => rgs_bytes _ l h
        have hb2 : ∀ l, rgs (s.data.toList.drop (p + 2)) = some l → M.Bytes l := fun l h => rgs_bytes _ l h
        clear hcut hidx hocc occ d1 d2 hy1 hy2 z1 z2 hno
        generalize rgs (s.data.toList.take p) = X1 at *
        generalize rgs (s.data.toList.drop (p + 2)) = X2 at *
        go_wp2_with fail
        refine (G1 _).mono ?_
        clear G1 hs1 hix hiy
        have bad : Hid (r6 s.data.toList = none → tf = 0 ∧ th = 0 ∧ tl = 0 ∧ te = 1) := fun h => by
          have := HT.out
          rw [sixB, h] at this
          simp only [Prod.mk.injEq, Ad.mk.injEq] at this
          omega
        cases X1 with
        | none =>
          rintro e w1 ⟨rfl, b1⟩
          obtain ⟨rfl, rfl, rfl, rfl⟩ := bad.out (HR.out.symm.trans rfl)
          clear bad HT HR
          go_wp2_with fail
          refine (G2 _).mono ?_
          cases X2 with
          | none =>
            rintro e w2 ⟨rfl, b2⟩
            obtain ⟨k0, k1, k2, q0, hz, bw⟩ := fin.out w2 (b1.trans (b2.mono b1.size))
            go_wp2
            exact bodyPost_ret (v := .tuple #[.agg #[.int .i64 0, .int .u64 0, .int .u64 0], .int .i64 1]) (by simp [results, Tryd.results47, go_sem, k0, k1, k2, hz]) rfl ⟨rfl, ((bw.setCell (by simp) _).setCell (by simp) _).setCell (by simp) _⟩
          | some l2 =>
            rintro e w2 ⟨a2, c2, rfl, f2⟩
            obtain ⟨k0, k1, k2, q0, hz, bw⟩ := fin.out w2 (b1.trans (f2.below.mono b1.size))
            clear f2
            go_wp2
            exact bodyPost_ret (v := .tuple #[.agg #[.int .i64 0, .int .u64 0, .int .u64 0], .int .i64 1]) (by simp [results, Tryd.results47, go_sem, k0, k1, k2, hz]) rfl ⟨rfl, ((bw.setCell (by simp) _).setCell (by simp) _).setCell (by simp) _⟩
        | some l1 =>
          rintro e w1 ⟨a1, c1, rfl, f1⟩
          have b1 := f1.below
          have hl1b := hb1 l1 rfl
          go_wp2_with fail
          refine (G2 _).mono ?_
          cases X2 with
          | none =>
            rintro e w2 ⟨rfl, b2⟩
            obtain ⟨rfl, rfl, rfl, rfl⟩ := bad.out (HR.out.symm.trans rfl)
            clear bad HT HR f1
            obtain ⟨k0, k1, k2, q0, hz, bw⟩ := fin.out w2 (b1.trans (b2.mono b1.size))
            go_wp2
            exact bodyPost_ret (v := .tuple #[.agg #[.int .i64 0, .int .u64 0, .int .u64 0], .int .i64 1]) (by simp [results, Tryd.results47, go_sem, k0, k1, k2, hz]) rfl ⟨rfl, ((bw.setCell (by simp) _).setCell (by simp) _).setCell (by simp) _⟩
          | some l2 =>
            rintro e w2 ⟨a2, c2, rfl, f2⟩
            have b2 := f2.below
            have s1 := b1.size
            have s2 := b2.size
            have sm1 := f1.row.small
            have sm2 := f2.row.small
            by_cases h14 : 14 < l1.length + l2.length
            · obtain ⟨rfl, rfl, rfl, rfl⟩ := bad.out (by rw [← HR.out]; simp only; rw [if_pos h14])
              clear bad HT HR f1 f2
              obtain ⟨k0, k1, k2, q0, hz, bw⟩ := fin.out w2 (b1.trans (b2.mono b1.size))
              have i14 : (14 : Int) < (l1.length : Int) + (l2.length : Int) := by omega
              go_wp2
              exact bodyPost_ret (v := .tuple #[.agg #[.int .i64 0, .int .u64 0, .int .u64 0], .int .i64 1]) (by simp [results, Tryd.results47, go_sem, k0, k1, k2, hz]) rfl ⟨rfl, ((bw.setCell (by simp) _).setCell (by simp) _).setCell (by simp) _⟩
            · have hF : Hid (fromB (l1 ++ List.replicate (16 - (l1.length + l2.length)) 0 ++ l2) = (⟨tf, th, tl⟩, te)) := by
                show _ = _
                have := HT.out
                rw [sixB, ← HR.out] at this
                simp only at this
                rw [if_neg h14] at this
                exact this
              have i14 : ¬ (14 : Int) < (l1.length : Int) + (l2.length : Int) := by omega
              have o1 : Owns w2 W0.heap.size (.slice a1 l1.length c1) l1 := f1.owns.below b2
              have L1 : ∀ k, (Value.slice a1 l1.length c1).ownBlock = some k → k < w1.heap.size := fun k hk => (World.ownsRow.lt f1.owns k hk).2
              have r2 := f2.row
              have n2 := f2.nil
              have L2 : Hid (∀ bk off, a2 = some ⟨bk, off, none⟩ → w1.heap.size ≤ bk ∧ bk < w2.heap.size) := fun bk off h => World.ownsRow.lt f2.owns bk (by rw [h]; rfl)
              have L1' : Hid (∀ k, (Value.slice a1 l1.length c1).ownBlock = some k → k < w1.heap.size ∨ w2.heap.size ≤ k) := fun k hk => .inl (L1 k hk)
              have hl2b := hb2 l2 rfl
              clear L1 f1 f2 bad HT HR
              go_wp2
              go_loopw [5] (fun v w' => ∃ (n : Nat) (r : List Int) (a : Option Addr) (c : Nat), v = .slice a r.length c ∧ r.length ≤ 16 ∧ M.Bytes r ∧ Hid (r = l1 ++ List.replicate n 0) ∧ Hid (l1.length + n + l2.length ≤ 16) ∧ Owns w' W0.heap.size (.slice a r.length c) r ∧ Row w' a2 l2 ∧
                  Hid (∀ k, (Value.slice a r.length c).ownBlock = some k → k < w1.heap.size ∨ w2.heap.size ≤ k) ∧ Below W0.heap.size W0 w' ∧ w2.heap.size ≤ w'.heap.size) (fun v _ => 16 - (match v with | .slice _ n _ => n | _ => 0))
              case atStart => exact ⟨0, l1, a1, c1, rfl, by omega, hl1b, by show _ = _; simp, by show _ ≤ _; omega, o1, r2, L1', b1.trans (b2.mono s1), Nat.le_refl _⟩
              case round =>
                obtain ⟨n, r, a, c, rfl, hr16, hrb, hrr, hn, own, row, hL, bel, hsz⟩ := hrel
                have zr := bel.size
                have hrl : r.length = l1.length + n := by rw [hrr.out]; simp
                by_cases hlt : r.length + l2.length < 16
                · have ilt : (r.length : Int) + (l2.length : Int) < 16 := by omega
                  obtain ⟨r', hr'⟩ : ∃ r', r ++ [0] = r' := ⟨_, rfl⟩
                  have HR' : Hid (r ++ [0] = r') := hr'
                  have hl' : r'.length ≤ 16 := by rw [← hr']; simp; omega
                  have hb' : M.Bytes r' := by rw [← hr']; exact hrb.app (fun z hz => by simp at hz; omega)
                  have hq : Hid (r' = l1 ++ List.replicate (n + 1) 0) := by
                    show _ = _
                    rw [← hr', hrr.out, List.append_assoc, ← List.replicate_succ']
                  have hn' : Hid (l1.length + (n + 1) + l2.length ≤ 16) := by show _ ≤ _; omega
                  have hgt : Hid (16 - r'.length < 16 - r.length) := by show _ < _; rw [← hr']; simp; omega
                  have HL : Hid (r.length = l1.length + n) := hrl
                  clear hr' hrl
                  go_wp2_with (at_builtin; refine wpList_appL _ rfl _ _ rfl W0.heap.size _ r rfl (own.alloc _) _ _ 0 rfl ?appC r' HR'.out (by omega) (by simp; omega) _ rfl ?_)
                  case appC => first | (simp [go_sem]; done) | simp
                  intro g cap w3 o3 g3 at3
                  have row3 : Row w3 a2 l2 := (row.alloc _).grown g3 (fun b off hb e => by
                    have h1 := L2.out b off hb
                    have h2 := hL.out b e.symm
                    omega)
                  have b3 : Below W0.heap.size W0 w3 := (bel.alloc zr _).trans ((Below.refl _ _).grown g3 (by simp; omega) fun k hk => (World.ownsRow.lt own k hk).1)
                  have hL3 : Hid (∀ k, (Value.slice (some ⟨g, 0, none⟩) r'.length cap).ownBlock = some k → k < w1.heap.size ∨ w2.heap.size ≤ k) := fun k hk => by
                    have hk' : g = k := by simpa [Value.ownBlock] using hk
                    subst hk'
                    rcases at3 with h | h
                    · exact hL.out g h
                    · right; rw [h]; first | omega | (simp; omega)
                  have z3 : w2.heap.size ≤ w3.heap.size := by have := g3.size; simp at this; omega
                  go_wp2
                  exact ⟨⟨n + 1, r', _, cap, rfl, hl', hb', hq, hn', o3, row3, hL3, b3, z3⟩, hgt.out⟩
                · have ilt : ¬ (r.length : Int) + (l2.length : Int) < 16 := by omega
                  have hn16 : n = 16 - (l1.length + l2.length) := by have := hn.out; omega
                  obtain ⟨r', hr'⟩ : ∃ r', r ++ l2 = r' := ⟨_, rfl⟩
                  have HR' : Hid (r ++ l2 = r') := hr'
                  have hl' : r'.length ≤ 16 := by rw [← hr']; simp; have := hn.out; omega
                  have hF' : Hid (fromB r' = (⟨tf, th, tl⟩, te)) := by
                    show _ = _
                    rw [← hr', hrr.out, hn16]
                    exact hF.out
                  clear hr' hrl hn16 hF
                  go_wp2_with (at_builtin; refine wpList_app2 _ rfl _ _ rfl W0.heap.size _ r rfl own hrb a2 c2 l2 rfl row n2 r' HR'.out ?c1 ?c2 ?_)
                  case c1 => first | omega | (simp; omega)
                  try (case c2 => first | omega | (simp; omega))
                  intro a5 c5 w5 o5 hc5 hn5 r5 b5 _
                  have hf := rfrom_any a5 c5 r' w5 r5
                  rw [hF'.out] at hf
                  go_wp2_with fail
                  refine hf.mono ?_
                  rintro e w6 ⟨rfl, b6⟩
                  have bel5 := bel.trans b5
                  obtain ⟨k0, k1, k2, q0, hz, bw⟩ := fin.out w6 (bel5.trans (b6.mono bel5.size))
                  clear hf o5 r5 own row
                  go_wp2
                  exact bodyPost_ret (v := .tuple #[.agg #[.int .i64 tf, .int .u64 th, .int .u64 tl], .int .i64 te]) (by simp [results, Tryd.results47, go_sem, k0, k1, k2, hz]) rfl ⟨rfl, ((bw.setCell (by simp) _).setCell (by simp) _).setCell (by simp) _⟩
      · have hno' : Hid (∀ j, j < p + 1 → Lib.occAt s.data.toList [58, 58] j = false) := fun j hj => by
          by_cases hjp : j = p
          · rw [hjp]; exact Bool.eq_false_iff.2 (fun h => hcd (occ.1 h))
          · exact hno.out j (by omega)
        clear hno occ
        by_cases hc58 : c = 58
        · have q1 : ((c : Int) == 58) = true := by simp; omega
          have q2 : ((d : Int) == 58) = false := by simp; omega
          clear hcd hc58
          go_wp2
          all_goals exact ⟨⟨p + 1, int_eq (by omega), by first | rfl | trivial, by omega, hno'⟩, by simp [intOf]; omega⟩
        · have q1 : ((c : Int) == 58) = false := by simp; omega
          clear hcd hc58
          go_wp2
          all_goals exact ⟨⟨p + 1, int_eq (by omega), by first | rfl | trivial, by omega, hno'⟩, by simp [intOf]; omega⟩
    · have ilt : ¬ (p : Int) + 1 < (s.size : Int) := by omega
      have hidx : Lib.index s.data.toList [58, 58] = -1 := Lib.index_none fun j hj => by
        by_cases hjp : j < p
        · exact hno.out j hjp
        · refine Bool.eq_false_iff.2 fun h => ?_
          rcases Lib.occAt_room h with h' | h'
          · rw [Hlen.out] at h'; simp at h'; omega
          · cases h'
      have hcut : (Lib.cut s.data.toList [58, 58]).2.2 = false := by
        unfold Lib.cut
        rw [hidx, if_neg (by omega)]
      have HR : Hid ((match rgs s.data.toList with | some a => if a.length = 16 then some a else none | none => none) = r6 s.data.toList) := by
        show _ = _
        rw [r6, hcut, if_neg (by decide)]
        rfl
      have G1 := fun w => rgroups_any s w hs
      have bad : Hid (r6 s.data.toList = none → tf = 0 ∧ th = 0 ∧ tl = 0 ∧ te = 1) := fun h => by
        have := HT.out
        rw [sixB, h] at this
        simp only [Prod.mk.injEq, Ad.mk.injEq] at this
        omega
      clear hidx hcut hno
      generalize rgs s.data.toList = X1 at *
      go_wp2_with fail
      refine (G1 _).mono ?_
      cases X1 with
      | none =>
        rintro e w1 ⟨rfl, b1⟩
        obtain ⟨rfl, rfl, rfl, rfl⟩ := bad.out (HR.out.symm.trans rfl)
        clear bad HT HR
        obtain ⟨k0, k1, k2, q0, hz, bw⟩ := fin.out w1 b1
        go_wp2
        exact bodyPost_ret (v := .tuple #[.agg #[.int .i64 0, .int .u64 0, .int .u64 0], .int .i64 1]) (by simp [results, Tryd.results47, go_sem, k0, k1, k2, hz]) rfl ⟨rfl, ((bw.setCell (by simp) _).setCell (by simp) _).setCell (by simp) _⟩
      | some l1 =>
        rintro e w1 ⟨a1, c1, rfl, f1⟩
        have b1 := f1.below
        by_cases h16 : l1.length = 16
        · have hF : Hid (fromB l1 = (⟨tf, th, tl⟩, te)) := by
            show _ = _
            have := HT.out
            rw [sixB, ← HR.out] at this
            simp only at this
            rw [if_pos h16] at this
            exact this
          have i16 : ((l1.length : Int) == 16) = true := by simp; omega
          have hf := rfrom_any a1 c1 l1 w1 f1.row
          rw [hF.out] at hf
          clear bad HT HR h16 f1
          go_wp2_with fail
          refine hf.mono ?_
          rintro e w3 ⟨rfl, b3⟩
          obtain ⟨k0, k1, k2, q0, hz, bw⟩ := fin.out w3 (b1.trans (b3.mono b1.size))
          go_wp2
          exact bodyPost_ret (v := .tuple #[.agg #[.int .i64 tf, .int .u64 th, .int .u64 tl], .int .i64 te]) (by simp [results, Tryd.results47, go_sem, k0, k1, k2, hz]) rfl ⟨rfl, ((bw.setCell (by simp) _).setCell (by simp) _).setCell (by simp) _⟩
        · obtain ⟨rfl, rfl, rfl, rfl⟩ := bad.out (by rw [← HR.out]; simp only; rw [if_neg h16])
          have i16 : ((l1.length : Int) == 16) = false := by simp; omega
          clear bad HT HR f1 h16
          obtain ⟨k0, k1, k2, q0, hz, bw⟩ := fin.out w1 b1
          go_wp2
          exact bodyPost_ret (v := .tuple #[.agg #[.int .i64 0, .int .u64 0, .int .u64 0], .int .i64 1]) (by simp [results, Tryd.results47, go_sem, k0, k1, k2, hz]) rfl ⟨rfl, ((bw.setCell (by simp) _).setCell (by simp) _).setCell (by simp) _⟩
end Go.Proofs.YtnadfacbfcdkgaaDoor
