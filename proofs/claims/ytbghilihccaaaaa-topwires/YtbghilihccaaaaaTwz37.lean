/- Texts joined: Ip4Pd -/
import Derived.Test.YtbghilihccaaaaaTwz7
namespace Go.Proofs.Ytbghilihccaaaaa
open Go.RowKit
set_option linter.unusedVariables false
set_option linter.unusedSimpArgs false
set_option maxRecDepth 100000 in
set_option maxHeartbeats 64000000 in
theorem parse_e0 (a : Option Addr) (c : Nat) (l : List Int) (w : World) (h : Row w a l) (hnil : a = none → c = 0) (hll : l.length ≤ 140737488351232) (hc : l.length ≤ c) (hcm : c ≤ 9223372036854775807) (hz : perr l = 0) :
    Calls Try.prog 40 #[.slice a l.length c] w fun e w' => ∃ a' c', e = .returned (.tuple #[(parsed l).v (.slice none 0 0) (.slice a' (parsed l).data.length c'), .int .i64 (perr l)]) ∧ Fresh w w' a' c' (parsed l).data := by
  have HZ : Hid (perr l = 0) := hz
  clear hz
  have bad : ∀ (x : Int) (W : World), Hid (perr l = x) → x ≠ 0 → Below w.heap.size w W → ∃ a' c', Ending.returned (.tuple #[.agg zIp, .int .i64 x]) = .returned (.tuple #[(parsed l).v (.slice none 0 0) (.slice a' (parsed l).data.length c'), .int .i64 (perr l)]) ∧ Fresh w W a' c' (parsed l).data := by
    rintro x W hx' hx hb
    have hx1 := hx'.out
    subst hx1
    refine ⟨none, 0, ?_, ?_⟩
    · unfold parsed
      rw [if_neg hx]
      rfl
    · unfold parsed
      rw [if_neg hx]
      exact ⟨Owns.nil _ _, Nat.le_refl _, fun _ => rfl, ⟨by simp [Pk.none], M.Bytes.nil, fun h => by simp [Pk.none] at h⟩, hb⟩
  have BAD : Hid (∀ (x : Int) (W : World), Hid (perr l = x) → x ≠ 0 → Below w.heap.size w W → ∃ a' c', Ending.returned (.tuple #[.agg zIp, .int .i64 x]) = .returned (.tuple #[(parsed l).v (.slice none 0 0) (.slice a' (parsed l).data.length c'), .int .i64 (perr l)]) ∧ Fresh w W a' c' (parsed l).data) := bad
  clear bad
  obtain ⟨g, hg⟩ : ∃ g, w.heap.size + 1 = g := ⟨_, rfl⟩
  obtain ⟨W0, hW0⟩ : ∃ W0, (w.alloc (.cells #[.slice a l.length c] 40)).alloc (.cells zIp 42) = W0 := ⟨_, rfl⟩
  have b0 : Below w.heap.size w W0 := by rw [← hW0]; exact ((Below.refl _ _).alloc (Nat.le_refl _) _).alloc (by simp) _
  have p0 : PF w g a c l W0 := by
    refine ⟨h.below b0, by rw [← hW0]; simp, ?_, b0, by rw [← hW0]; simp, by rw [← hW0, ← hg]; simp, by omega⟩
    have := zIp_new (w.alloc (.cells #[.slice a l.length c] 40))
    rw [hW0, World.size_alloc, hg] at this
    exact this
  clear b0
  have bx := p0.box
  by_cases hlen : l.length < 20
  · have hp : Hid (perr l = 2) := by show perr l = 2; unfold perr; rw [if_pos hlen]
    have hlen' : (l.length : Int) < 20 := by omega
    go_enter Try.func40, Try.ntmps40
    exfalso
    have h1 := hp.out
    have h2 := HZ.out
    first
      | omega
      | (have h3 := OV.out; omega)
  have hlen' : ¬ (l.length : Int) < 20 := by omega
  obtain ⟨bk, ao, rfl, hcl0⟩ := h.cells (by omega)
  clear hcl0
  obtain ⟨y0, hy0⟩ : ∃ y, l.getD 0 0 = y := ⟨_, rfl⟩
  obtain ⟨y8, hy8⟩ : ∃ y, l.getD 8 0 = y := ⟨_, rfl⟩
  obtain ⟨y9, hy9⟩ : ∃ y, l.getD 9 0 = y := ⟨_, rfl⟩
  have v0 : 0 ≤ y0 ∧ y0 ≤ 255 := by rw [← hy0]; exact h.bytes.get 0
  have v8 : 0 ≤ y8 ∧ y8 ≤ 255 := by rw [← hy8]; exact h.bytes.get 8
  have v9 : 0 ≤ y9 ∧ y9 ≤ 255 := by rw [← hy9]; exact h.bytes.get 9
  have ub : ∀ k : Int, 0 ≤ u16 l k ∧ u16 l k ≤ 65535 := fun k => by
    have h1 := h.bytes.get k.toNat
    have h2 := h.bytes.get (k.toNat + 1)
    unfold u16
    omega
  obtain ⟨S, hS⟩ : ∃ S : Nat, u16 l 2 = (S : Int) := Int.eq_ofNat_of_zero_le (ub 2).1
  obtain ⟨v4, hv4⟩ : ∃ v, u16 l 4 = v := ⟨_, rfl⟩
  obtain ⟨v6, hv6⟩ : ∃ v, u16 l 6 = v := ⟨_, rfl⟩
  have w4 : 0 ≤ v4 ∧ v4 ≤ 65535 := by rw [← hv4]; exact ub 4
  have w6 : 0 ≤ v6 ∧ v6 ≤ 65535 := by rw [← hv6]; exact ub 6
  have wS : S ≤ 65535 := by have := (ub 2).2; rw [hS] at this; omega
  obtain ⟨H, hH⟩ : ∃ H : Nat, hd l = (H : Int) := Int.eq_ofNat_of_zero_le (by unfold hd; omega)
  have hH' : y0 % 16 * 4 = (H : Int) := by rw [← hy0]; exact hH
  have wH : H ≤ 60 := by omega
  obtain ⟨q, hq⟩ : ∃ q, y0 % 16 = q := ⟨_, rfl⟩
  have e15 : bits .and .i64 y0 15 = q := by rw [i64_and15, hq]
  have hqH : q * 4 = (H : Int) := by rw [← hq]; exact hH'
  have wq : 0 ≤ q ∧ q ≤ 15 := by omega
  have kb : ∀ (k : Nat) (i y : Int) (W : World), k < l.length → (k : Int) = i → l.getD k 0 = y → PF w g (some ⟨bk, ao, none⟩) c l W → Calls Try.prog 57 #[.int .i64 i, .pointer (some ⟨w.heap.size, 0, none⟩)] W fun e w' => e = .returned (.int .i64 y) ∧ w' = W := by
    rintro k i y W hk rfl rfl p
    exact byteAt_any _ c _ l k W p.row hk p.box
  have kw : ∀ (k y : Int) (W : World), 0 ≤ k → k + 2 ≤ l.length → u16 l k = y → PF w g (some ⟨bk, ao, none⟩) c l W → Calls Try.prog 58 #[.int .i64 k, .pointer (some ⟨w.heap.size, 0, none⟩)] W fun e w' => e = .returned (.int .i64 y) ∧ ∃ n, w' = W.drewN n := by
    rintro k y W h0 hk rfl p
    exact wordAt_any _ c _ l k W p.row h0 hk p.box
  obtain ⟨T, hT⟩ : ∃ T, M.sumOf [l.take H] = T := ⟨_, rfl⟩
  obtain ⟨O, hO⟩ : ∃ O, opts ((l.take H).drop 20) = O := ⟨_, rfl⟩
  obtain ⟨f1, hf1⟩ : ∃ f, v6 / 32768 % 2 * 32768 = f := ⟨_, rfl⟩
  obtain ⟨f2, hf2⟩ : ∃ f, v6 / 8192 % 2 * 8192 = f := ⟨_, rfl⟩
  obtain ⟨f3, hf3⟩ : ∃ f, v6 % 8192 = f := ⟨_, rfl⟩
  have OV : Hid (O = 0 ∨ O = 7 ∨ O = 8) := by rw [← hO]; exact optsGo_vals _ _
  have E1 : bits .and .i64 v6 32768 = f1 := by rw [i64_and32768 _ w6.1 w6.2, hf1]
  have E2 : bits .and .i64 v6 8192 = f2 := by rw [i64_and8192 _ w6.1 w6.2, hf2]
  have E3 : bits .and .i64 v6 8191 = f3 := by rw [i64_and8191, hf3]
  have wf3 : 0 ≤ f3 ∧ f3 ≤ 8191 := by omega
  have PE : Hid (perr l = if y0 / 16 ≠ 4 then 3 else if (H : Int) < 20 ∨ (H : Int) > l.length then 4 else if (S : Int) < H ∨ (S : Int) > l.length then 5 else if T ≠ 65535 then 6 else if y8 = 0 then 26 else if f1 ≠ 0 then 10
      else if O ≠ 0 then O else if f2 ≠ 0 ∧ ((S : Int) - H) % 8 ≠ 0 then 5 else if f3 * 8 + ((S : Int) - H) > 65515 then 11 else 0) := by
    show perr l = _
    have q1 : (v6 / 32768 % 2 ≠ 0) = (f1 ≠ 0) := by rw [← hf1]; apply propext; omega
    have q2 : (mr l = true) = (f2 ≠ 0) := by
      unfold mr pl
      rw [hv6, ← hf2, decide_eq_true_eq]
      apply propext
      omega
    have q3 : ofs l = f3 * 8 := by unfold ofs pl; rw [hv6, hf3]
    unfold perr
    rw [if_neg hlen]
    simp only [q2, q3, sz, pl, hy0, hH, hS, hv6, hy8, Int.toNat_natCast, hT, hO, q1]
  have PF2 : Hid (parsed l = if perr l = 0 then ⟨4, (fromB (part l 12 4)).1, (fromB (part l 16 4)).1, y9, y8, decide (f2 ≠ 0) || decide (f3 * 8 ≠ 0), if (decide (f2 ≠ 0) || decide (f3 * 8 ≠ 0)) = true then v4 else 0, f3 * 8, decide (f2 ≠ 0), part l (H : Int) ((S : Int) - H)⟩ else Pk.none) := by
    show parsed l = _
    have q2 : mr l = decide (f2 ≠ 0) := by
      unfold mr pl
      rw [hv6, ← hf2]
      apply decide_eq_decide.2
      omega
    have q3 : ofs l = f3 * 8 := by unfold ofs pl; rw [hv6, hf3]
    unfold parsed pkt fr
    simp only [q2, q3, sz, hH, hS, hv4, hy8, hy9]
  obtain ⟨a2, ha2⟩ : ∃ a2, (if c = 20 then some (⟨bk, ao, none⟩ : Addr) else some ⟨bk, ao + 20, none⟩) = a2 := ⟨_, rfl⟩
  have KO : Hid (20 ≤ H → H ≤ l.length → ∀ W, PF w g (some ⟨bk, ao, none⟩) c l W → Calls Try.prog 64 #[.slice a2 (H - 20) (c - 20)] W fun e w' => e = .returned (.int .i64 O) ∧ w' = W) := by
    intro h1 h2 W p
    have hl1 : (l.take H).length = H := by rw [List.length_take]; omega
    have hl2 : ((l.take H).drop 20).length = H - 20 := by rw [List.length_drop, hl1]
    have hr0 := (p.row.take H).drop c 20 (by omega)
    have hr : Row W a2 ((l.take H).drop 20) := by
      rw [← ha2]
      simpa [Go.WideShapes.add_plain] using hr0
    have := options_any a2 (c - 20) _ W hr (by omega) (by omega)
    rw [hl2, hO] at this
    exact this
  have KS : Hid (H ≤ l.length → ∀ W, PF w g (some ⟨bk, ao, none⟩) c l W → Calls Try.prog 63 #[.slice (some ⟨W.heap.size, 0, none⟩) 1 1] (W.alloc (.cells #[.slice (some ⟨bk, ao, none⟩) H c] 40)) fun e w' => e = .returned (.int .i64 T) ∧ w' = W.alloc (.cells #[.slice (some ⟨bk, ao, none⟩) H c] 40)) := by
    intro h2 W p
    have hl1 : H = (l.take H).length := by rw [List.length_take]; omega
    have := sum_any _ 1 [l.take H] _ (rowss_one' W 40 W.heap.size rfl _ c (l.take H) H hl1 (p.row.take H))
    rw [hT] at this
    exact this
  clear hf1 hf2 hf3 hT hO
  have KB : Hid (∀ (k : Nat) (i y : Int) (W : World), k < l.length → (k : Int) = i → l.getD k 0 = y → PF w g (some ⟨bk, ao, none⟩) c l W → Calls Try.prog 57 #[.int .i64 i, .pointer (some ⟨w.heap.size, 0, none⟩)] W fun e w' => e = .returned (.int .i64 y) ∧ w' = W) := kb
  have KW : Hid (∀ (k y : Int) (W : World), 0 ≤ k → k + 2 ≤ l.length → u16 l k = y → PF w g (some ⟨bk, ao, none⟩) c l W → Calls Try.prog 58 #[.int .i64 k, .pointer (some ⟨w.heap.size, 0, none⟩)] W fun e w' => e = .returned (.int .i64 y) ∧ ∃ n, w' = W.drewN n) := kw
  clear kb kw
  have EQ : Hid (l.getD 0 0 = y0 ∧ l.getD 8 0 = y8 ∧ l.getD 9 0 = y9 ∧ u16 l 2 = (S : Int) ∧ u16 l 4 = v4 ∧ u16 l 6 = v6 ∧ hd l = (H : Int)) := ⟨hy0, hy8, hy9, hS, hv4, hv6, hH⟩
  clear ub hH' hq hy0 hy8 hy9 hS hv4 hv6 hH
  have H_v0 : Hid (0 ≤ y0 ∧ y0 ≤ 255) := v0
  have H_v8 : Hid (0 ≤ y8 ∧ y8 ≤ 255) := v8
  have H_v9 : Hid (0 ≤ y9 ∧ y9 ≤ 255) := v9
  have H_w4 : Hid (0 ≤ v4 ∧ v4 ≤ 65535) := w4
  have H_w6 : Hid (0 ≤ v6 ∧ v6 ≤ 65535) := w6
  have H_wS : Hid (S ≤ 65535) := wS
  have H_wH : Hid (H ≤ 60) := wH
  have H_hqH : Hid (q * 4 = (H : Int)) := hqH
  have H_wq : Hid (0 ≤ q ∧ q ≤ 15) := wq
  have H_e15 : Hid (bits .and .i64 y0 15 = q) := e15
  have H_E1 : Hid (bits .and .i64 v6 32768 = f1) := E1
  have H_E2 : Hid (bits .and .i64 v6 8192 = f2) := E2
  have H_E3 : Hid (bits .and .i64 v6 8191 = f3) := E3
  have H_wf3 : Hid (0 ≤ f3 ∧ f3 ≤ 8191) := wf3
  have H_hnil : Hid ((some (⟨bk, ao, none⟩ : Addr)) = none → c = 0) := hnil
  have H_hll : Hid (l.length ≤ 140737488351232) := hll
  have H_hc : Hid (l.length ≤ c) := hc
  have H_hcm : Hid (c ≤ 9223372036854775807) := hcm
  have H_h : Hid (Row w (some ⟨bk, ao, none⟩) l) := h
  have H_ha2 : Hid ((if c = 20 then some (⟨bk, ao, none⟩ : Addr) else some ⟨bk, ao + 20, none⟩) = a2) := ha2
  clear v0 v8 v9 w4 w6 wS wH hqH wq e15 E1 E2 E3 wf3 hnil hll hc hcm h ha2
  have H_hlen : Hid (¬ l.length < 20) := hlen
  have L20 : 20 ≤ l.length := by omega
  have HL20 : Hid (20 ≤ l.length) := L20
  clear hlen L20
  go_enter Try.func40, Try.ntmps40
  go_wp2_with fail
  refine (KB.out 0 0 y0 _ (by have := HL20.out; omega) rfl EQ.out.1 p0).mono ?_
  rintro e W' ⟨rfl, hW'⟩
  rw [hW']
  clear hW' W'
  clear hlen' hg hW0
  have e15 := H_e15.out
  have hqH := H_hqH.out
  have wq := H_wq.out
  have wH := H_wH.out
  go_wp2_with fail
  refine (KW.out 2 (S : Int) _ (by decide) (by have := HL20.out; omega) EQ.out.2.2.2.1 p0).mono ?_
  rintro e W1 ⟨rfl, n1, hn1⟩
  have p1 : PF w g (some ⟨bk, ao, none⟩) c l W1 := by rw [hn1]; exact p0.step (below_drewN (Below.refl _ _) _)
  clear hn1 p0 bx
  have bx := p1.box
  clear e15 hqH wq wH
  by_cases hver : y0 / 16 ≠ 4
  case pos =>
    have hp : Hid (perr l = 3) := by show perr l = 3; rw [PE.out, if_pos hver]
    have hver' : (y0 / 16 != 4) = true := by simpa using hver
    clear hver
    have v0 := H_v0.out
    go_wp2_with fail
    refine (KB.out 0 0 y0 _ (by have := HL20.out; omega) rfl EQ.out.1 p1).mono ?_
    rintro e W' ⟨rfl, hW'⟩
    rw [hW']
    clear hW' W'
    exfalso
    have h1 := hp.out
    have h2 := HZ.out
    first
      | omega
      | (have h3 := OV.out; omega)
  have hver' : (y0 / 16 != 4) = false := by simpa using hver
  have HV : Hid (¬ y0 / 16 ≠ 4) := hver
  clear hver
  have v0 := H_v0.out
  go_wp2_with fail
  refine (KB.out 0 0 y0 _ (by have := HL20.out; omega) rfl EQ.out.1 p1).mono ?_
  rintro e W' ⟨rfl, hW'⟩
  rw [hW']
  clear hW' W'
  by_cases hhd : (H : Int) < 20 ∨ (H : Int) > l.length
  case pos =>
    have hp : Hid (perr l = 4) := by show perr l = 4; rw [PE.out, if_neg HV.out, if_pos hhd]
    by_cases h20 : (H : Int) < 20
    · clear hhd
      exfalso
      have h1 := hp.out
      have h2 := HZ.out
      first
        | omega
        | (have h3 := OV.out; omega)
    · have h21 : (H : Int) > l.length := by omega
      clear hhd
      exfalso
      have h1 := hp.out
      have h2 := HZ.out
      first
        | omega
        | (have h3 := OV.out; omega)
  have h20 : ¬ (H : Int) < 20 := by omega
  have h21 : ¬ (H : Int) > l.length := by omega
  have HHD : Hid (¬ ((H : Int) < 20 ∨ (H : Int) > l.length)) := hhd
  clear hhd
  by_cases hsz : (S : Int) < H ∨ (S : Int) > l.length
  case pos =>
    have hp : Hid (perr l = 5) := by show perr l = 5; rw [PE.out, if_neg HV.out, if_neg HHD.out, if_pos hsz]
    by_cases h22 : (S : Int) < H
    · clear hsz
      exfalso
      have h1 := hp.out
      have h2 := HZ.out
      first
        | omega
        | (have h3 := OV.out; omega)
    · have h23 : (S : Int) > l.length := by omega
      clear hsz
      exfalso
      have h1 := hp.out
      have h2 := HZ.out
      first
        | omega
        | (have h3 := OV.out; omega)
  have h22 : ¬ (S : Int) < H := by omega
  have h23 : ¬ (S : Int) > l.length := by omega
  have HH : Hid (¬ y0 / 16 ≠ 4 ∧ ¬ ((H : Int) < 20 ∨ (H : Int) > l.length) ∧ ¬ ((S : Int) < H ∨ (S : Int) > l.length)) := ⟨HV.out, HHD.out, hsz⟩
  have HN : Hid (20 ≤ H ∧ H ≤ l.length ∧ H ≤ S ∧ S ≤ l.length) := ⟨by omega, by omega, by omega, by omega⟩
  clear hsz HV HHD v0
  have hHl := HN.out.2.1
  have hc := H_hc.out
  go_wp2_with fail
  refine (KS.out hHl W1 p1).mono ?_
  rintro e W2 ⟨rfl, hW2⟩
  have p2 : PF w g (some ⟨bk, ao, none⟩) c l W2 := by rw [hW2]; exact p1.step ((Below.refl _ _).alloc (Nat.le_refl _) _)
  clear hW2 p1 bx h20 h21 h22 h23 hver' hHl hc
  have bx := p2.box
  by_cases hsum : T ≠ 65535
  case pos =>
    have hp : Hid (perr l = 6) := by show perr l = 6; rw [PE.out, if_neg HH.out.1, if_neg HH.out.2.1, if_neg HH.out.2.2, if_pos hsum]
    have hsum' : (T != 65535) = true := by simpa using hsum
    clear hsum
    exfalso
    have h1 := hp.out
    have h2 := HZ.out
    first
      | omega
      | (have h3 := OV.out; omega)
  have hsum' : (T != 65535) = false := by simpa using hsum
  have HS : Hid (¬ T ≠ 65535) := hsum
  clear hsum
  go_wp2_with fail
  refine (KB.out 8 8 y8 _ (by have := HL20.out; omega) rfl EQ.out.2.1 p2).mono ?_
  rintro e W' ⟨rfl, hW'⟩
  rw [hW']
  clear hW' W'
  clear hsum'
  by_cases hhop : y8 = 0
  case pos =>
    have hp : Hid (perr l = 26) := by show perr l = 26; rw [PE.out, if_neg HH.out.1, if_neg HH.out.2.1, if_neg HH.out.2.2, if_neg HS.out, if_pos hhop]
    have hhop' : (y8 == 0) = true := by simpa using hhop
    clear hhop
    exfalso
    have h1 := hp.out
    have h2 := HZ.out
    first
      | omega
      | (have h3 := OV.out; omega)
  have hhop' : (y8 == 0) = false := by simpa using hhop
  have HP2 : Hid (¬ y8 = 0) := hhop
  clear hhop
  go_wp2_with fail
  refine (KW.out 6 v6 _ (by decide) (by have := HL20.out; omega) EQ.out.2.2.2.2.2.1 p2).mono ?_
  rintro e W3 ⟨rfl, n3, hn3⟩
  have p3 : PF w g (some ⟨bk, ao, none⟩) c l W3 := by rw [hn3]; exact p2.step (below_drewN (Below.refl _ _) _)
  clear hn3 p2 bx
  have bx := p3.box
  clear hhop'
  have E1 := H_E1.out
  by_cases hflag : f1 ≠ 0
  case pos =>
    have hp : Hid (perr l = 10) := by show perr l = 10; rw [PE.out, if_neg HH.out.1, if_neg HH.out.2.1, if_neg HH.out.2.2, if_neg HS.out, if_neg HP2.out, if_pos hflag]
    have hflag' : (f1 != 0) = true := by simpa using hflag
    clear hflag
    exfalso
    have h1 := hp.out
    have h2 := HZ.out
    first
      | omega
      | (have h3 := OV.out; omega)
  have hflag' : (f1 != 0) = false := by simpa using hflag
  have HFL : Hid (¬ f1 ≠ 0) := hflag
  clear hflag
  have hH20 := HN.out.1
  have hHl := HN.out.2.1
  have hc := H_hc.out
  have ha2 := H_ha2.out
  go_wp2_with fail
  refine (KO.out hH20 hHl W3 p3).mono ?_
  rintro e W' ⟨rfl, hW'⟩
  rw [hW']
  clear hW' W'
  clear hH20 hHl hc ha2 E1 hflag'
  by_cases hopt : O ≠ 0
  case pos =>
    have hp : Hid (perr l = O) := by show perr l = O; rw [PE.out, if_neg HH.out.1, if_neg HH.out.2.1, if_neg HH.out.2.2, if_neg HS.out, if_neg HP2.out, if_neg HFL.out, if_pos hopt]
    have hopt' : (O != 0) = true := by simpa using hopt
    have HO : Hid (O ≠ 0) := hopt
    clear hopt
    exfalso
    have h1 := hp.out
    have h2 := HZ.out
    first
      | omega
      | (have h3 := OV.out; omega)
      | (have h4 := HO.out; omega)
  have hopt' : (O != 0) = false := by simpa using hopt
  have HI : Hid (¬ T ≠ 65535 ∧ ¬ y8 = 0 ∧ ¬ f1 ≠ 0 ∧ ¬ O ≠ 0) := ⟨HS.out, HP2.out, HFL.out, hopt⟩
  clear hopt HS HP2 HFL
  go_wp2_with fail
  refine (KW.out 6 v6 _ (by decide) (by have := HL20.out; omega) EQ.out.2.2.2.2.2.1 p3).mono ?_
  rintro e W4 ⟨rfl, n4, hn4⟩
  have p4 : PF w g (some ⟨bk, ao, none⟩) c l W4 := by rw [hn4]; exact p3.step (below_drewN (Below.refl _ _) _)
  clear hn4 p3 bx
  have bx := p4.box
  clear hopt'
  have E2 := H_E2.out
  go_wp2_with fail
  refine (KW.out 6 v6 _ (by decide) (by have := HL20.out; omega) EQ.out.2.2.2.2.2.1 p4).mono ?_
  rintro e W5 ⟨rfl, n5, hn5⟩
  have p5 : PF w g (some ⟨bk, ao, none⟩) c l W5 := by rw [hn5]; exact p4.step (below_drewN (Below.refl _ _) _)
  clear hn5 p4 bx
  have bx := p5.box
  obtain ⟨Of, hOf⟩ : ∃ o, f3 * 8 = o := ⟨_, rfl⟩
  have HOf : Hid (f3 * 8 = Of) := hOf
  have E3 := H_E3.out
  have wf3 := H_wf3.out
  have wOf : 0 ≤ Of ∧ Of ≤ 65528 := by omega
  have hHS := HN.out.2.2.1
  have wS := H_wS.out
  go_wp2_with fail
  have kp := part_yes _ c l (H : Int) ((S : Int) - H) W5 p5.row H_hnil.out H_hll.out H_hc.out H_hcm.out (by omega) (by omega) (by have := HN.out; omega)
  obtain ⟨D, hD⟩ : ∃ D, part l (H : Int) ((S : Int) - H) = D := ⟨_, rfl⟩
  have hDl : D.length = S - H := by rw [← hD]; unfold part; rw [List.length_take, List.length_drop]; have := HN.out; omega
  rw [hD] at kp
  obtain ⟨n, hn⟩ : ∃ n, D.length = n := ⟨_, rfl⟩
  rw [hn] at kp
  have HD : Hid (part l (H : Int) ((S : Int) - H) = D ∧ D.length = n ∧ n = S - H) := ⟨hD, hn, by omega⟩
  have wn : n ≤ 65535 := by omega
  refine kp.mono ?_
  rintro e W6 ⟨a1, c1, rfl, fD⟩
  have p6 : PF w g (some ⟨bk, ao, none⟩) c l W6 := p5.step fD.below
  have o6 : Hid (Owns W6 (g + 1) (.slice a1 D.length c1) D) := owns_le (by have := p5.lt; omega) fD.owns
  have HF : Hid (D.length ≤ c1 ∧ (a1 = none → c1 = 0)) := ⟨fD.room, fD.nil⟩
  have bD : Hid (M.Bytes D) := fD.row.bytes
  clear kp hD hDl hn p5 bx fD hOf E3 wf3 hHS wS E2
  have bx := p6.box
  by_cases hmul : f2 ≠ 0 ∧ ((S : Int) - H) % 8 ≠ 0
  case pos =>
    have hp : Hid (perr l = 5) := by show perr l = 5; rw [PE.out, if_neg HH.out.1, if_neg HH.out.2.1, if_neg HH.out.2.2, if_neg HI.out.1, if_neg HI.out.2.1, if_neg HI.out.2.2.1, if_neg HI.out.2.2.2, if_pos hmul]
    have m1 : (f2 != 0) = true := by simpa using hmul.1
    have m2 : ((n : Int) % 8 != 0) = true := by
      have := HD.out.2.2
      have := HN.out
      simp
      omega
    have m3 : (n : Int).tmod 8 = (n : Int) % 8 := Int.tmod_eq_emod_of_nonneg (by omega)
    clear hmul
    exfalso
    have h1 := hp.out
    have h2 := HZ.out
    first
      | omega
      | (have h3 := OV.out; omega)
  by_cases hov : f3 * 8 + ((S : Int) - H) > 65515
  case pos =>
    have hp : Hid (perr l = 11) := by show perr l = 11; rw [PE.out, if_neg HH.out.1, if_neg HH.out.2.1, if_neg HH.out.2.2, if_neg HI.out.1, if_neg HI.out.2.1, if_neg HI.out.2.2.1, if_neg HI.out.2.2.2, if_neg hmul, if_pos hov]
    have hov' : Of + (n : Int) > 65515 := by have := HD.out.2.2; have := HOf.out; have := HN.out; omega
    clear hov
    by_cases m0 : f2 = 0
    · have m1 : (f2 != 0) = false := by simpa using m0
      clear m0 hmul
      exfalso
      have h1 := hp.out
      have h2 := HZ.out
      first
        | omega
        | (have h3 := OV.out; omega)
    · have m1 : (f2 != 0) = true := by simpa using m0
      have m2 : ((n : Int) % 8 != 0) = false := by
        have := HD.out.2.2
        have := HN.out
        have := not_and.1 hmul m0
        simp
        omega
      have m3 : (n : Int).tmod 8 = (n : Int) % 8 := Int.tmod_eq_emod_of_nonneg (by omega)
      clear m0 hmul
      exfalso
      have h1 := hp.out
      have h2 := HZ.out
      first
        | omega
        | (have h3 := OV.out; omega)
  have hp : Hid (perr l = 0) := by show perr l = 0; rw [PE.out, if_neg HH.out.1, if_neg HH.out.2.1, if_neg HH.out.2.2, if_neg HI.out.1, if_neg HI.out.2.1, if_neg HI.out.2.2.1, if_neg HI.out.2.2.2, if_neg hmul, if_neg hov]
  have hov' : ¬ Of + (n : Int) > 65515 := by have := HD.out.2.2; have := HOf.out; have := HN.out; omega
  have hmul' : Hid (f2 = 0 ∨ ((n : Int) % 8 != 0) = false) := by
    show _ ∨ _
    by_cases m0 : f2 = 0
    · exact .inl m0
    · refine .inr ?_
      have := HD.out.2.2
      have := HN.out
      have := not_and.1 hmul m0
      simp
      omega
  have q2 := PF2.out
  rw [if_pos hp.out, HD.out.1, HOf.out] at q2
  have PP : Hid (parsed l = _) := q2
  clear hov hmul q2 PF2
  by_cases m0 : f2 = 0
  · have m1 : (f2 != 0) = false := by simpa using m0
    have M1 : Hid (f2 = 0) := m0
    clear m0 hmul'
    go_wp2_with fail
    refine (addrAt_any _ c w.heap.size l 12 _ p6.row H_hnil.out H_hll.out H_hc.out H_hcm.out (by decide) (by have := HL20.out; omega) p6.box).mono ?_
    rintro e W7 ⟨rfl, b7⟩
    have p7 : PF w g (some ⟨bk, ao, none⟩) c l W7 := p6.step b7
    have o7 : Hid (Owns W7 (g + 1) (.slice a1 D.length c1) D) := o6.out.below b7
    clear b7 p6 o6 bx
    have bx := p7.box
    go_wp2_with fail
    refine (addrAt_any _ c w.heap.size l 16 _ p7.row H_hnil.out H_hll.out H_hc.out H_hcm.out (by decide) (by have := HL20.out; omega) p7.box).mono ?_
    rintro e W8 ⟨rfl, b8⟩
    have p8 : PF w g (some ⟨bk, ao, none⟩) c l W8 := p7.step b8
    have o8 : Hid (Owns W8 (g + 1) (.slice a1 D.length c1) D) := o7.out.below b8
    clear b8 p7 o7 bx
    have bx := p8.box
    obtain ⟨A1, hA1⟩ : ∃ A, (fromB (part l 12 4)).1 = A := ⟨_, rfl⟩
    obtain ⟨A2, hA2⟩ : ∃ A, (fromB (part l 16 4)).1 = A := ⟨_, rfl⟩
    have HA : Hid ((fromB (part l 12 4)).1 = A1 ∧ (fromB (part l 16 4)).1 = A2) := ⟨hA1, hA2⟩
    rw [hA1, hA2]
    clear hA1 hA2
    obtain ⟨s0, s1, s2⟩ := A1
    obtain ⟨t0, t1, t2⟩ := A2
    go_wp2_with fail
    refine (KB.out 9 9 y9 _ (by have := HL20.out; omega) rfl EQ.out.2.2.1 p8).mono ?_
    rintro e W' ⟨rfl, hW'⟩
    rw [hW']
    clear hW' W'
    go_wp2_with fail
    refine (KB.out 8 8 y8 _ (by have := HL20.out; omega) rfl EQ.out.2.1 p8).mono ?_
    rintro e W' ⟨rfl, hW'⟩
    rw [hW']
    clear hW' W'
    by_cases of0 : Of = 0
    · have of1 : (Of != 0) = false := by simpa using of0
      have OF0 : Hid (Of = 0) := of0
      clear of0
      obtain ⟨W9, hW9⟩ : ∃ W9, W8.alloc (.cells #[.int .i64 4, .int .i64 s0, .int .u64 s1, .int .u64 s2, .int .i64 t0, .int .u64 t1, .int .u64 t2, .int .i64 y9, .int .i64 y8, .bool false, .int .u32 0, .int .i64 0, .bool false, .slice none 0 0, .slice a1 n c1] 42) = W9 := ⟨_, rfl⟩
      have bw : Below W8.heap.size W8 W9 := by rw [← hW9]; exact (Below.refl _ _).alloc (Nat.le_refl _) _
      have sp : SIp W9 W8.heap.size (.int .i64 4) (.int .i64 s0) (.int .u64 s1) (.int .u64 s2) (.int .i64 t0) (.int .u64 t1) (.int .u64 t2) (.int .i64 y9) (.int .i64 y8) (.bool false) (.int .u32 0) (.int .i64 0) (.bool false) (.slice none 0 0) (.slice a1 n c1) := by rw [← hW9]; exact sIp_new W8 _ _ _ _ _ _ _ _ _ _ _ _ _ _ _
      have zz := (p8.step bw).z
      obtain ⟨d0, d1, d2, d3, d4, d5, d6, d7, d8, d9, d10, d11, d12, d13, d14, dz⟩ := (p8.step bw).z
      obtain ⟨e0, e1, e2, e3, e4, e5, e6, e7, e8, e9, e10, e11, e12, e13, e14⟩ := sp
      have hv : Hid (parsed l = ⟨4, ⟨s0, s1, s2⟩, ⟨t0, t1, t2⟩, y9, y8, false, 0, 0, false, D⟩) := by
        show parsed l = _
        rw [PP.out, HA.out.1, HA.out.2]
        simp [M1.out, OF0.out]
      have BW : Hid (Below W8.heap.size W8 W9) := bw
      clear bw
      go_wp2
      refine parse_ret (sIp_set zz _ _ _ _ _ _ _ _ _ _ _ _ _ _ _) rfl rfl rfl ⟨a1, c1, ?_, ?_⟩
      · rw [hv.out, hp.out, ← HD.out.2.1]
      · rw [hv.out]
        exact parse_fresh _ _ _ _ _ _ _ _ _ _ _ _ _ _ _ p8 BW.out o8.out bD.out (by rw [HD.out.2.1]; exact wn) HF.out.1 HF.out.2
    · have of1 : (Of != 0) = true := by simpa using of0
      have OF0 : Hid (¬ Of = 0) := of0
      clear of0
      have ba : Below W8.heap.size W8 (W8.alloc (.cells #[.int .i64 4, .int .i64 s0, .int .u64 s1, .int .u64 s2, .int .i64 t0, .int .u64 t1, .int .u64 t2, .int .i64 y9, .int .i64 y8, .bool false, .int .u32 0, .int .i64 0, .bool false, .slice none 0 0, .slice a1 n c1] 42)) := (Below.refl _ _).alloc (Nat.le_refl _) _
      have BA : Hid (Below W8.heap.size W8 (W8.alloc (.cells #[.int .i64 4, .int .i64 s0, .int .u64 s1, .int .u64 s2, .int .i64 t0, .int .u64 t1, .int .u64 t2, .int .i64 y9, .int .i64 y8, .bool false, .int .u32 0, .int .i64 0, .bool false, .slice none 0 0, .slice a1 n c1] 42))) := ba
      clear ba
      have bxa := (p8.step BA.out).box
      go_wp2_with fail
      refine (KW.out 4 v4 _ (by decide) (by have := HL20.out; omega) EQ.out.2.2.2.2.1 (p8.step BA.out)).mono ?_
      rintro e W9 ⟨rfl, n9, hn9⟩
      have BW : Hid (Below W8.heap.size W8 W9) := by rw [hn9]; exact below_drewN BA.out n9
      have sp : SIp W9 W8.heap.size (.int .i64 4) (.int .i64 s0) (.int .u64 s1) (.int .u64 s2) (.int .i64 t0) (.int .u64 t1) (.int .u64 t2) (.int .i64 y9) (.int .i64 y8) (.bool false) (.int .u32 0) (.int .i64 0) (.bool false) (.slice none 0 0) (.slice a1 n c1) := by rw [hn9]; exact (sIp_new W8 _ _ _ _ _ _ _ _ _ _ _ _ _ _ _).below (by simp) (below_drewN (Below.refl (W8.heap.size + 1) _) n9)
      have fzp : ∀ o, W9.frozen? ⟨W8.heap.size, o, none⟩ = false := fun o => by
        rw [hn9]
        show (W8.alloc _).frozen? _ = false
        simp
      clear hn9 bx bxa BA
      obtain ⟨d0, d1, d2, d3, d4, d5, d6, d7, d8, d9, d10, d11, d12, d13, d14, dz⟩ := (p8.step BW.out).z
      obtain ⟨e0, e1, e2, e3, e4, e5, e6, e7, e8, e9, e10, e11, e12, e13, e14⟩ := sp
      have hne : ¬ W8.heap.size = g := by have := p8.lt; omega
      have hne' : ¬ g = W8.heap.size := by have := p8.lt; omega
      have hu32 : IntKind.u32.wrap v4 = v4 := by have := H_w4.out; rw [IntKind.wrap_u32]; omega
      have hv : Hid (parsed l = ⟨4, ⟨s0, s1, s2⟩, ⟨t0, t1, t2⟩, y9, y8, true, v4, Of, false, D⟩) := by
        show parsed l = _
        rw [PP.out, HA.out.1, HA.out.2]
        simp [M1.out, OF0.out]
      go_wp2
      have bw2 : Below W8.heap.size W8 ((((W9.setCell ⟨W8.heap.size, 9, none⟩ (.bool true)).setCell ⟨W8.heap.size, 10, none⟩ (.int .u32 v4)).setCell ⟨W8.heap.size, 11, none⟩ (.int .i64 Of)).setCell ⟨W8.heap.size, 12, none⟩ (.bool false)) :=
        (((BW.out.setCell (Nat.le_refl _) _).setCell (Nat.le_refl _) _).setCell (Nat.le_refl _) _).setCell (Nat.le_refl _) _
      refine parse_ret (sIp_set (p8.step bw2).z _ _ _ _ _ _ _ _ _ _ _ _ _ _ _) rfl rfl rfl ⟨a1, c1, ?_, ?_⟩
      · rw [hv.out, hp.out, ← HD.out.2.1]
      · rw [hv.out]
        exact parse_fresh _ _ _ _ _ _ _ _ _ _ _ _ _ _ _ p8 bw2 o8.out bD.out (by rw [HD.out.2.1]; exact wn) HF.out.1 HF.out.2
  · have m1 : (f2 != 0) = true := by simpa using m0
    have m2 : ((n : Int) % 8 != 0) = false := by rcases hmul'.out with h | h; exact absurd h m0; exact h
    have m3 : (n : Int).tmod 8 = (n : Int) % 8 := Int.tmod_eq_emod_of_nonneg (by omega)
    have M1 : Hid (¬ f2 = 0) := m0
    clear m0 hmul'
    go_wp2_with fail
    refine (addrAt_any _ c w.heap.size l 12 _ p6.row H_hnil.out H_hll.out H_hc.out H_hcm.out (by decide) (by have := HL20.out; omega) p6.box).mono ?_
    rintro e W7 ⟨rfl, b7⟩
    have p7 : PF w g (some ⟨bk, ao, none⟩) c l W7 := p6.step b7
    have o7 : Hid (Owns W7 (g + 1) (.slice a1 D.length c1) D) := o6.out.below b7
    clear b7 p6 o6 bx
    have bx := p7.box
    go_wp2_with fail
    refine (addrAt_any _ c w.heap.size l 16 _ p7.row H_hnil.out H_hll.out H_hc.out H_hcm.out (by decide) (by have := HL20.out; omega) p7.box).mono ?_
    rintro e W8 ⟨rfl, b8⟩
    have p8 : PF w g (some ⟨bk, ao, none⟩) c l W8 := p7.step b8
    have o8 : Hid (Owns W8 (g + 1) (.slice a1 D.length c1) D) := o7.out.below b8
    clear b8 p7 o7 bx
    have bx := p8.box
    obtain ⟨A1, hA1⟩ : ∃ A, (fromB (part l 12 4)).1 = A := ⟨_, rfl⟩
    obtain ⟨A2, hA2⟩ : ∃ A, (fromB (part l 16 4)).1 = A := ⟨_, rfl⟩
    have HA : Hid ((fromB (part l 12 4)).1 = A1 ∧ (fromB (part l 16 4)).1 = A2) := ⟨hA1, hA2⟩
    rw [hA1, hA2]
    clear hA1 hA2
    obtain ⟨s0, s1, s2⟩ := A1
    obtain ⟨t0, t1, t2⟩ := A2
    go_wp2_with fail
    refine (KB.out 9 9 y9 _ (by have := HL20.out; omega) rfl EQ.out.2.2.1 p8).mono ?_
    rintro e W' ⟨rfl, hW'⟩
    rw [hW']
    clear hW' W'
    go_wp2_with fail
    refine (KB.out 8 8 y8 _ (by have := HL20.out; omega) rfl EQ.out.2.1 p8).mono ?_
    rintro e W' ⟨rfl, hW'⟩
    rw [hW']
    clear hW' W'
    have ba : Below W8.heap.size W8 (W8.alloc (.cells #[.int .i64 4, .int .i64 s0, .int .u64 s1, .int .u64 s2, .int .i64 t0, .int .u64 t1, .int .u64 t2, .int .i64 y9, .int .i64 y8, .bool false, .int .u32 0, .int .i64 0, .bool false, .slice none 0 0, .slice a1 n c1] 42)) := (Below.refl _ _).alloc (Nat.le_refl _) _
    have BA : Hid (Below W8.heap.size W8 (W8.alloc (.cells #[.int .i64 4, .int .i64 s0, .int .u64 s1, .int .u64 s2, .int .i64 t0, .int .u64 t1, .int .u64 t2, .int .i64 y9, .int .i64 y8, .bool false, .int .u32 0, .int .i64 0, .bool false, .slice none 0 0, .slice a1 n c1] 42))) := ba
    clear ba
    have bxa := (p8.step BA.out).box
    go_wp2_with fail
    refine (KW.out 4 v4 _ (by decide) (by have := HL20.out; omega) EQ.out.2.2.2.2.1 (p8.step BA.out)).mono ?_
    rintro e W9 ⟨rfl, n9, hn9⟩
    have BW : Hid (Below W8.heap.size W8 W9) := by rw [hn9]; exact below_drewN BA.out n9
    have sp : SIp W9 W8.heap.size (.int .i64 4) (.int .i64 s0) (.int .u64 s1) (.int .u64 s2) (.int .i64 t0) (.int .u64 t1) (.int .u64 t2) (.int .i64 y9) (.int .i64 y8) (.bool false) (.int .u32 0) (.int .i64 0) (.bool false) (.slice none 0 0) (.slice a1 n c1) := by rw [hn9]; exact (sIp_new W8 _ _ _ _ _ _ _ _ _ _ _ _ _ _ _).below (by simp) (below_drewN (Below.refl (W8.heap.size + 1) _) n9)
    have fzp : ∀ o, W9.frozen? ⟨W8.heap.size, o, none⟩ = false := fun o => by
      rw [hn9]
      show (W8.alloc _).frozen? _ = false
      simp
    clear hn9 bx bxa BA
    obtain ⟨d0, d1, d2, d3, d4, d5, d6, d7, d8, d9, d10, d11, d12, d13, d14, dz⟩ := (p8.step BW.out).z
    obtain ⟨e0, e1, e2, e3, e4, e5, e6, e7, e8, e9, e10, e11, e12, e13, e14⟩ := sp
    have hne : ¬ W8.heap.size = g := by have := p8.lt; omega
    have hne' : ¬ g = W8.heap.size := by have := p8.lt; omega
    have hu32 : IntKind.u32.wrap v4 = v4 := by have := H_w4.out; rw [IntKind.wrap_u32]; omega
    have hv : Hid (parsed l = ⟨4, ⟨s0, s1, s2⟩, ⟨t0, t1, t2⟩, y9, y8, true, v4, Of, true, D⟩) := by
      show parsed l = _
      rw [PP.out, HA.out.1, HA.out.2]
      simp [M1.out]
    go_wp2
    have bw2 : Below W8.heap.size W8 ((((W9.setCell ⟨W8.heap.size, 9, none⟩ (.bool true)).setCell ⟨W8.heap.size, 10, none⟩ (.int .u32 v4)).setCell ⟨W8.heap.size, 11, none⟩ (.int .i64 Of)).setCell ⟨W8.heap.size, 12, none⟩ (.bool true)) :=
      (((BW.out.setCell (Nat.le_refl _) _).setCell (Nat.le_refl _) _).setCell (Nat.le_refl _) _).setCell (Nat.le_refl _) _
    refine parse_ret (sIp_set (p8.step bw2).z _ _ _ _ _ _ _ _ _ _ _ _ _ _ _) rfl rfl rfl ⟨a1, c1, ?_, ?_⟩
    · rw [hv.out, hp.out, ← HD.out.2.1]
    · rw [hv.out]
      exact parse_fresh _ _ _ _ _ _ _ _ _ _ _ _ _ _ _ p8 bw2 o8.out bD.out (by rw [HD.out.2.1]; exact wn) HF.out.1 HF.out.2
end Go.Proofs.Ytbghilihccaaaaa
