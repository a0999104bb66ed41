/- Texts joined: AtG -/
import Derived.Test.YtnadfacbfcdkgaaDoorFsa25
namespace Go.Proofs.YtnadfacbfcdkgaaDoor
open Go.RowKit
set_option linter.unusedVariables false
set_option linter.unusedSimpArgs false
theorem rp_six (s : List UInt8) (h : 58 ∈ s) : sixB s = parseB s := by rw [← rp_eq, rp, if_pos h]; rfl
theorem rp_four (s : List UInt8) (h : ¬ 58 ∈ s) : (match (if (spl 46 s).length = 4 then qsGo (spl 46 s) [] else none) with | some b => fromB b | none => ((⟨0, 0, 0⟩, 1) : Ad × Int)) = parseB s := by rw [← rp_eq, rp, if_neg h]; rfl
set_option maxRecDepth 100000 in
set_option maxHeartbeats 4000000 in
theorem rparse_any (s : ByteArray) (w : World) (hs : s.size < 4294967281) :
    Calls Tryd.prog 37 #[.string s] w fun e w' => e = .returned (.tuple #[(parseB s.data.toList).1.v, .int .i64 (parseB s.data.toList).2]) ∧ Below w.heap.size w w' := by
  have e1 : s.data.toList.length = s.size := Array.length_toList
  obtain ⟨T, hT⟩ : ∃ T, parseB s.data.toList = T := ⟨_, rfl⟩
  rw [hT]
  have HT : Hid (parseB s.data.toList = T) := hT
  clear hT
  obtain ⟨⟨tf, th, tl⟩, te⟩ := T
  obtain ⟨W0, hW0⟩ : ∃ W0, w.alloc (.cells #[.int .i64 0, .int .u64 0, .int .u64 0] 30) = W0 := ⟨_, rfl⟩
  have fin : Hid (∀ wX, Below W0.heap.size W0 wX → wX.cell? ⟨w.heap.size, 0, none⟩ = some (.int .i64 0) ∧ wX.cell? ⟨w.heap.size, 1, none⟩ = some (.int .u64 0) ∧ wX.cell? ⟨w.heap.size, 2, none⟩ = some (.int .u64 0) ∧ (∀ o, wX.frozen? ⟨w.heap.size, o, none⟩ = false) ∧ w.heap.size < wX.heap.size ∧ Below w.heap.size w wX) := by
    show _
    rw [← hW0]
    intro wX bb
    exact res3 (by simpa using bb)
  have Hlen : Hid (s.data.toList.length = s.size) := e1
  clear e1
  go_enter Tryd.func37, Tryd.ntmps37
  go_wp2
  clear hW0
  go_loopw [4] (fun i w' => ∃ p : Nat, i = .int .i64 p ∧ w' = W0 ∧ p ≤ s.size ∧ Hid (∀ j, j < p → ¬ s.data.toList[j]? = some 58)) (fun i _ => s.size - (intOf i).toNat)
  case atStart => exact ⟨0, rfl, rfl, Nat.zero_le _, fun j hj => by omega⟩
  case round =>
    obtain ⟨p, rfl, hw0, hp, hno⟩ := hrel
    obtain rfl : W0 = wr := hw0.symm
    by_cases hlt : p < s.size
    · have ilt : (p : Int) < (s.size : Int) := by omega
      obtain ⟨c, hc⟩ : ∃ c, (s[p]'hlt).toNat = c := ⟨_, rfl⟩
      have hix := index_str s p c hlt hc
      have g1 := get_list s p hlt
      have hc58 : s.data.toList[p]? = some 58 ↔ c = 58 := by
        rw [g1, ← hc]
        exact ⟨fun h => by rw [Option.some.inj h]; rfl, fun h => congrArg some (UInt8.toNat_inj.1 (by rw [h]; rfl))⟩
      clear hc g1
      by_cases h58 : c = 58
      · have hm : (58 : UInt8) ∈ s.data.toList := List.mem_of_getElem? (hc58.2 h58)
        have h6 := fun w => rsix_any s w hs
        rw [rp_six _ hm, HT.out] at h6
        have q1 : ((c : Int) == 58) = true := by simp; omega
        clear hm hc58 h58 hno
        go_wp2_with fail
        refine (h6 _).mono ?_
        rintro e w1 ⟨rfl, b1⟩
        obtain ⟨k0, k1, k2, q0, hz, bw⟩ := fin.out w1 b1
        go_wp2
        exact bodyPost_ret (v := .tuple #[.agg #[.int .i64 tf, .int .u64 th, .int .u64 tl], .int .i64 te]) (by simp [results, Tryd.results37, go_sem, k0, k1, k2, hz]) rfl ⟨rfl, ((bw.setCell (by simp) _).setCell (by simp) _).setCell (by simp) _⟩
      · have hno' : Hid (∀ j, j < p + 1 → ¬ s.data.toList[j]? = some 58) := fun j hj => by
          by_cases hjp : j = p
          · rw [hjp]; exact fun h => h58 (hc58.1 h)
          · exact hno.out j (by omega)
        have q1 : ((c : Int) == 58) = false := by simp; omega
        clear hno h58 hc58
        go_wp2
        all_goals exact ⟨⟨p + 1, int_eq (by omega), by first | rfl | trivial, by omega, hno'⟩, by simp [intOf]; omega⟩
    · have ilt : ¬ (p : Int) < (s.size : Int) := by omega
      have hm : ¬ (58 : UInt8) ∈ s.data.toList := fun h => by
        obtain ⟨j, hj⟩ := List.getElem?_of_mem h
        have hj2 := (List.getElem?_eq_some_iff.1 hj).1
        exact hno.out j (by rw [Hlen.out] at hj2; omega) hj
      have HQ : Hid ((match (if (spl 46 s.data.toList).length = 4 then qsGo (spl 46 s.data.toList) [] else none) with | some b => fromB b | none => ((⟨0, 0, 0⟩, 1) : Ad × Int)) = (⟨tf, th, tl⟩, te)) := by
        show _ = _
        rw [rp_four _ hm]
        exact HT.out
      have hsz : Hid (∀ x ∈ spl 46 s.data.toList, x.length ≤ s.size) := fun x hx => by rw [← Hlen.out]; exact spl_sub 46 _ x hx
      have hln : Hid ((spl 46 s.data.toList).length ≤ s.size + 1) := by rw [← Hlen.out]; exact spl_len 46 _
      have hsp := rsplit_any s 46 46 rfl W0 hs
      clear hm hno HT Hlen
      generalize spl 46 s.data.toList = P at *
      go_wp2_with fail
      refine hsp.mono ?_
      rintro e w1 ⟨a0, k0, ws, rfl, G⟩
      have own0 := G.owns
      have b1 := G.below
      have z1 := b1.size
      have hP : Hid (ws.map (·.data.toList) = P) := G.parts
      have hlen : ws.length ≤ s.size + 1 := by have := hln.out; rw [← hP.out, List.length_map] at this; exact this
      have hlP : Hid (P.length = ws.length) := by show _ = _; rw [← hP.out, List.length_map]
      have hwz : ∀ x ∈ ws, x.size ≤ 9223372036854775807 := fun x hx => by
        have := hsz.out x.data.toList (by rw [← hP.out]; exact List.mem_map_of_mem hx)
        have e : x.data.toList.length = x.size := Array.length_toList
        omega
      have hrow : Hid (RowS w1 a0 ws) := own0.row
      clear hsp G hsz hln own0
      by_cases h4 : ws.length = 4
      · have HQ4 : Hid ((match qsGo ((ws.drop 0).map (·.data.toList)) [] with | some b => fromB b | none => ((⟨0, 0, 0⟩, 1) : Ad × Int)) = (⟨tf, th, tl⟩, te)) := by
          show _ = _
          have := HQ.out
          rw [if_pos (by rw [hlP.out]; exact h4), ← hP.out] at this
          rw [List.drop_zero]
          exact this
        have H4 : Hid (ws.length = 4) := h4
        have i4 : ((ws.length : Int) != 4) = false := by simp; omega
        clear h4 HQ hP hlP
        go_wp2
        go_loopw [6, 7] (fun b i w' => ∃ (k : Nat) (l : List Int) (a : Option Addr) (c : Nat), k ≤ 4 ∧ i = .int .i64 k ∧ b = .slice a l.length c ∧ l.length ≤ k ∧ M.Bytes l ∧ Owns w' w1.heap.size (.slice a l.length c) l ∧ Below w1.heap.size w1 w' ∧ Hid ((match qsGo ((ws.drop k).map (·.data.toList)) l with | some b => fromB b | none => ((⟨0, 0, 0⟩, 1) : Ad × Int)) = (⟨tf, th, tl⟩, te))) (fun _ i _ => 4 - (intOf i).toNat)
        case atStart => exact ⟨0, [], none, 0, Nat.zero_le _, rfl, rfl, Nat.le_refl _, M.Bytes.nil, Owns.nil _ _, Below.refl _ _, HQ4⟩
        case round =>
          obtain ⟨k, l, a, c, hk, rfl, rfl, hl, hby, own, bel, hr⟩ := hrel
          clear HQ4
          have zr := bel.size
          by_cases hk4 : k < 4
          · have hlt4 : k < ws.length := by rw [H4.out]; exact hk4
            obtain ⟨bk, off, ha0, hcc⟩ := (hrow.out.below bel) (by omega)
            subst ha0
            obtain ⟨x, hx⟩ : ∃ x, ws[k]? = some x := ⟨_, List.getElem?_eq_getElem hlt4⟩
            have hc := hcc k x hx
            have hxs := hwz x (List.mem_of_getElem? hx)
            have hr1 := hr.out
            rw [List.drop_eq_getElem_cons hlt4, List.map_cons, show ws[k] = x from by have := List.getElem?_eq_getElem hlt4; rw [this] at hx; exact Option.some.inj hx] at hr1
            have hbd := num_bd 255 x.data.toList
            have hg := fun w => rnum10_any x 255 w hxs (by omega) (by omega)
            rw [rnum10 255 (by omega)] at hg
            unfold qsGo at hr1
            generalize num 255 x.data.toList = N at *
            obtain ⟨n, ok⟩ := N
            simp only at hr1 hbd hg
            have HN : Hid ((match (if ok = true then qsGo ((ws.drop (k + 1)).map (·.data.toList)) (l ++ [n]) else none) with | some b => fromB b | none => ((⟨0, 0, 0⟩, 1) : Ad × Int)) = (⟨tf, th, tl⟩, te)) := hr1
            have ilt : (k : Int) < 4 := by omega
            have ilt' : (k : Int) < (ws.length : Int) := by omega
            clear hr hr1 hx hcc
            cases ok with
            | false =>
              have hn := HN.out
              have e0 : ((⟨0, 0, 0⟩, 1) : Ad × Int) = (⟨tf, th, tl⟩, te) := hn
              simp only [Prod.mk.injEq, Ad.mk.injEq] at e0
              obtain ⟨⟨rfl, rfl, rfl⟩, rfl⟩ := e0
              clear HN hn
              obtain ⟨k0, k1, k2, q0, hz, bw⟩ := fin.out wr (b1.trans (bel.mono z1))
              go_wp2_with (go_at_call 35; refine (hg _).mono ?_; rintro e w' ⟨rfl, rfl⟩)
              exact bodyPost_ret (v := .tuple #[.agg #[.int .i64 0, .int .u64 0, .int .u64 0], .int .i64 1]) (by simp [results, Tryd.results37, go_sem, k0, k1, k2, hz]) rfl ⟨rfl, ((bw.setCell (by simp) _).setCell (by simp) _).setCell (by simp) _⟩
            | true =>
              obtain ⟨r, hr⟩ : ∃ r, l ++ [n] = r := ⟨_, rfl⟩
              have hrl : r.length ≤ k + 1 := by rw [← hr]; simp; omega
              have hq : Hid ((match qsGo ((ws.drop (k + 1)).map (·.data.toList)) r with | some b => fromB b | none => ((⟨0, 0, 0⟩, 1) : Ad × Int)) = (⟨tf, th, tl⟩, te)) := by have := HN.out; rw [if_pos rfl, hr] at this; exact this
              have HR : Hid (l ++ [n] = r) := hr
              have hrb : M.Bytes r := by rw [← hr]; exact hby.app (fun z hz => by simp at hz; omega)
              have hwn : IntKind.u8.wrap n = n := by rw [IntKind.wrap_u8]; omega
              clear hr HN
              go_wp2_with (first
                | (go_at_call 35; refine (hg _).mono ?_; rintro e w' ⟨rfl, rfl⟩)
                | (at_builtin; refine wpList_app2 _ rfl _ _ rfl w1.heap.size _ l rfl (own.alloc _) hby _ 1 [n] rfl ?row (fun hh => by cases hh) r HR.out ?c1 ?c2 ?_))
              case row =>
                refine row_at _ 5 [n] _ (by first | rfl | simp) (by simp) ?_
                intro z hz
                simp at hz
                omega
              case c1 => omega
              case c2 => simp; omega
              intro a3 c3 w3 o3 hc3 hn3 r3 b3 _
              go_wp2
              exact ⟨⟨k + 1, r, a3, c3, by omega, int_eq (by omega), rfl, hrl, hrb, o3, (bel.alloc zr _).trans b3, hq⟩, by simp [intOf]; omega⟩
          · have ek : k = 4 := by omega
            subst ek
            have ilt : ¬ ((4 : Nat) : Int) < 4 := by omega
            have hF : fromB l = (⟨tf, th, tl⟩, te) := by
              have := hr.out
              rw [show ws.drop 4 = [] from List.drop_eq_nil_iff.2 (by rw [H4.out]; exact Nat.le_refl _)] at this
              exact this
            have hf := rfrom_any a c l wr (own.row (by omega) hby)
            rw [hF] at hf
            clear hr hF
            go_wp2_with fail
            refine hf.mono ?_
            rintro e w3 ⟨rfl, b3⟩
            have bel1 := b1.trans (bel.mono z1)
            obtain ⟨k0, k1, k2, q0, hz, bw⟩ := fin.out w3 (bel1.trans (b3.mono bel1.size))
            clear own hf
            go_wp2
            exact bodyPost_ret (v := .tuple #[.agg #[.int .i64 tf, .int .u64 th, .int .u64 tl], .int .i64 te]) (by simp [results, Tryd.results37, go_sem, k0, k1, k2, hz]) rfl ⟨rfl, ((bw.setCell (by simp) _).setCell (by simp) _).setCell (by simp) _⟩
      · have e0 : ((⟨0, 0, 0⟩, 1) : Ad × Int) = (⟨tf, th, tl⟩, te) := by
          have := HQ.out
          rw [if_neg (by rw [hlP.out]; exact h4)] at this
          exact this
        simp only [Prod.mk.injEq, Ad.mk.injEq] at e0
        obtain ⟨⟨rfl, rfl, rfl⟩, rfl⟩ := e0
        have i4 : ((ws.length : Int) != 4) = true := by simp; omega
        clear HQ hP hlP h4
        obtain ⟨k0, k1, k2, q0, hz, bw⟩ := fin.out w1 b1
        go_wp2
        exact bodyPost_ret (v := .tuple #[.agg #[.int .i64 0, .int .u64 0, .int .u64 0], .int .i64 1]) (by simp [results, Tryd.results37, go_sem, k0, k1, k2, hz]) rfl ⟨rfl, ((bw.setCell (by simp) _).setCell (by simp) _).setCell (by simp) _⟩
end Go.Proofs.YtnadfacbfcdkgaaDoor
