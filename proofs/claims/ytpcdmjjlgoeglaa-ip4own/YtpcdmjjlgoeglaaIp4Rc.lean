/- The document's reading of a packet: a wrong length, and too much. -/
import Derived.Test.YtpcdmjjlgoeglaaIp4RQ
namespace Go.Proofs.Ytpcdmjjlgoeglaa
open Go.RowKit
set_option linter.unusedVariables false
set_option linter.unusedSimpArgs false

set_option maxRecDepth 100000 in
set_option maxHeartbeats 64000000 in
theorem rparse_e5 (a : Option Addr) (c : Nat) (l : List Int) (w : World) (h : Row w a l) (hnil : a = none → c = 0) (hll : l.length ≤ 140737488351232) (hc : l.length ≤ c) (hcm : c ≤ 9223372036854775807) (hz : perr l = 5) :
    Calls Try.prog 10 #[.slice a l.length c] w fun e w' => ∃ a' c', e = .returned (.tuple #[(parsed l).v (.slice none 0 0) (.slice a' (parsed l).data.length c'), .int .i64 (perr l)]) ∧ Fresh w w' a' c' (parsed l).data := by
  have HZ : Hid (perr l = 5) := hz
  clear hz
  have BAD : Hid (∀ (x : Int) (W : World), Hid (perr l = x) → x ≠ 0 → Below w.heap.size w W → ∃ a' c', Ending.returned (.tuple #[.agg zIp, .int .i64 x]) = .returned (.tuple #[(parsed l).v (.slice none 0 0) (.slice a' (parsed l).data.length c'), .int .i64 (perr l)]) ∧ Fresh w W a' c' (parsed l).data) := by
    rintro x W hx' hx hb
    have hx1 := hx'.out
    subst hx1
    refine ⟨none, 0, ?_, ?_⟩
    · unfold parsed
      rw [if_neg hx]
      rfl
    · unfold parsed
      rw [if_neg hx]
      exact ⟨Owns.nil _ _, Nat.le_refl _, fun _ => rfl, ⟨by simp [Pk.none], M.Bytes.nil, fun h => by simp [Pk.none] at h⟩, hb⟩
  obtain ⟨W0, hW0⟩ : ∃ W0, w.alloc (.cells zIp 29) = W0 := ⟨_, rfl⟩
  have b0 : Below w.heap.size w W0 := by rw [← hW0]; exact (Below.refl _ _).alloc (Nat.le_refl _) _
  have p0 : RF w a l W0 := ⟨h.below b0, by rw [← hW0]; exact zIp_new w, b0, by rw [← hW0]; simp⟩
  clear b0
  by_cases hlen : l.length < 20
  · have hp : Hid (perr l = 2) := by show perr l = 2; unfold perr; rw [if_pos hlen]
    have hlen' : (l.length : Int) < 20 := by omega
    go_enter Try.func10, Try.ntmps10
    exfalso
    have h1 := hp.out
    have h2 := HZ.out
    first
      | omega
      | (have h3 := OV.out; omega)
  have hlen' : ¬ (l.length : Int) < 20 := by omega
  obtain ⟨bk, ao, rfl, hcl0⟩ := h.cells (by omega)
  clear hcl0
  obtain ⟨y0, hy0⟩ : ∃ y, l.getD 0 0 = y := ⟨_, rfl⟩
  obtain ⟨y6, hy6⟩ : ∃ y, l.getD 6 0 = y := ⟨_, rfl⟩
  obtain ⟨y7, hy7⟩ : ∃ y, l.getD 7 0 = y := ⟨_, rfl⟩
  obtain ⟨y8, hy8⟩ : ∃ y, l.getD 8 0 = y := ⟨_, rfl⟩
  obtain ⟨y9, hy9⟩ : ∃ y, l.getD 9 0 = y := ⟨_, rfl⟩
  have v0 : 0 ≤ y0 ∧ y0 ≤ 255 := by rw [← hy0]; exact h.bytes.get 0
  have v6b : 0 ≤ y6 ∧ y6 ≤ 255 := by rw [← hy6]; exact h.bytes.get 6
  have v7b : 0 ≤ y7 ∧ y7 ≤ 255 := by rw [← hy7]; exact h.bytes.get 7
  have v8 : 0 ≤ y8 ∧ y8 ≤ 255 := by rw [← hy8]; exact h.bytes.get 8
  have v9 : 0 ≤ y9 ∧ y9 ≤ 255 := by rw [← hy9]; exact h.bytes.get 9
  have ub : ∀ k : Int, 0 ≤ u16 l k ∧ u16 l k ≤ 65535 := fun k => by
    have h1 := h.bytes.get k.toNat
    have h2 := h.bytes.get (k.toNat + 1)
    unfold u16
    omega
  obtain ⟨S, hS⟩ : ∃ S : Nat, u16 l 2 = (S : Int) := Int.eq_ofNat_of_zero_le (ub 2).1
  obtain ⟨v4, hv4⟩ : ∃ v, u16 l 4 = v := ⟨_, rfl⟩
  obtain ⟨v6, hv6⟩ : ∃ v, u16 l 6 = v := ⟨_, rfl⟩
  have hv67 : v6 = 256 * y6 + y7 := by rw [← hv6, ← hy6, ← hy7]; rfl
  have w4 : 0 ≤ v4 ∧ v4 ≤ 65535 := by rw [← hv4]; exact ub 4
  have w6 : 0 ≤ v6 ∧ v6 ≤ 65535 := by rw [← hv6]; exact ub 6
  have wS : S ≤ 65535 := by have := (ub 2).2; rw [hS] at this; omega
  obtain ⟨H, hH⟩ : ∃ H : Nat, hd l = (H : Int) := Int.eq_ofNat_of_zero_le (by unfold hd; omega)
  have hH' : y0 % 16 * 4 = (H : Int) := by rw [← hy0]; exact hH
  have wH : H ≤ 60 := by omega
  obtain ⟨q, hq⟩ : ∃ q, y0 % 16 = q := ⟨_, rfl⟩
  have e15 : bits .and .u8 y0 15 = q := by rw [u8_and15 _ v0.1 v0.2, hq]
  have hqH : q * 4 = (H : Int) := by rw [← hq]; exact hH'
  have wq : 0 ≤ q ∧ q ≤ 15 := by omega
  obtain ⟨T, hT⟩ : ∃ T, M.sumOf [l.take H] = T := ⟨_, rfl⟩
  obtain ⟨O, hO⟩ : ∃ O, opts ((l.take H).drop 20) = O := ⟨_, rfl⟩
  have OV : Hid (O = 0 ∨ O = 7 ∨ O = 8) := by rw [← hO]; exact optsGo_vals _ _
  obtain ⟨t2, ht2⟩ : ∃ t, y6 / 32 % 2 = t := ⟨_, rfl⟩
  obtain ⟨f3, hf3⟩ : ∃ f, v6 % 8192 = f := ⟨_, rfl⟩
  have E2 : bits .and .u8 (y6 / 32) 1 = t2 := by rw [u8_and1 _ (by omega) (by omega), ht2]
  have E3 : bits .and .i64 v6 8191 = f3 := by rw [i64_and8191, hf3]
  have wf3 : 0 ≤ f3 ∧ f3 ≤ 8191 := by omega
  have PE : Hid (perr l = if y0 / 16 ≠ 4 then 3 else if (H : Int) < 20 ∨ (H : Int) > l.length then 4 else if (S : Int) < H ∨ (S : Int) > l.length then 5 else if T ≠ 65535 then 6 else if y8 = 0 then 26 else if y6 / 128 = 1 then 10
      else if O ≠ 0 then O else if t2 = 1 ∧ ((S : Int) - H) % 8 ≠ 0 then 5 else if f3 * 8 + ((S : Int) - H) > 65515 then 11 else 0) := by
    show perr l = _
    have q1 : (v6 / 32768 % 2 ≠ 0) = (y6 / 128 = 1) := by apply propext; omega
    have q2 : (mr l = true) = (t2 = 1) := by
      unfold mr pl
      rw [hv6, ← ht2, decide_eq_true_eq]
      apply propext
      omega
    have q3 : ofs l = f3 * 8 := by unfold ofs pl; rw [hv6, hf3]
    unfold perr
    rw [if_neg hlen]
    simp only [q2, q3, sz, pl, hy0, hH, hS, hv6, hy8, Int.toNat_natCast, hT, hO, q1]
  obtain ⟨a2, ha2⟩ : ∃ a2, (if c = 20 then some (⟨bk, ao, none⟩ : Addr) else some ⟨bk, ao + 20, none⟩) = a2 := ⟨_, rfl⟩
  have KO : Hid (20 ≤ H → H ≤ l.length → ∀ W, RF w (some ⟨bk, ao, none⟩) l W → Calls Try.prog 33 #[.slice a2 (H - 20) (c - 20)] W fun e w' => e = .returned (.int .i64 O) ∧ w' = W) := by
    intro h1 h2 W p
    have hl1 : (l.take H).length = H := by rw [List.length_take]; omega
    have hl2 : ((l.take H).drop 20).length = H - 20 := by rw [List.length_drop, hl1]
    have hr0 := (p.row.take H).drop c 20 (by omega)
    have hr : Row W a2 ((l.take H).drop 20) := by
      rw [← ha2]
      simpa [Go.WideShapes.add_plain] using hr0
    have := roptions_any a2 (c - 20) _ W hr
    rw [hl2, hO] at this
    exact this
  have KS : Hid (H ≤ l.length → ∀ W, RF w (some ⟨bk, ao, none⟩) l W → Calls Try.prog 22 #[.slice (some ⟨W.heap.size, 0, none⟩) 1 1] (W.alloc (.cells #[.slice (some ⟨bk, ao, none⟩) H c] 27)) fun e w' => e = .returned (.int .i64 T) ∧ w' = W.alloc (.cells #[.slice (some ⟨bk, ao, none⟩) H c] 27)) := by
    intro h2 W p
    have hl1 : H = (l.take H).length := by rw [List.length_take]; omega
    have := refsum_any _ 1 [l.take H] _ (rowss_one' W 27 W.heap.size rfl _ c (l.take H) H hl1 (p.row.take H))
    rw [hT] at this
    exact this
  have KW : Hid (∀ (k y : Int) (W : World), 0 ≤ k → k + 2 ≤ l.length → u16 l k = y → RF w (some ⟨bk, ao, none⟩) l W → Calls Try.prog 32 #[.slice (some ⟨bk, ao, none⟩) l.length c, .int .i64 k] W fun e w' => e = .returned (.tuple #[.int .i64 y, .bool true]) ∧ Below W.heap.size W w') := by
    rintro k y W h0 hk rfl p
    exact ru16_yes _ c l k W p.row hnil hll hc hcm h0 hk
  have CL : Hid (∀ (k : Nat) (y : Int) (W : World), k < 20 → l.getD k 0 = y → RF w (some ⟨bk, ao, none⟩) l W → W.cell? ⟨bk, ao + k, none⟩ = some (.int .u8 y)) := by
    rintro k y W hk rfl p
    exact p.cell k (by omega)
  have EQ : Hid (l.getD 0 0 = y0 ∧ l.getD 6 0 = y6 ∧ l.getD 8 0 = y8 ∧ l.getD 9 0 = y9 ∧ u16 l 2 = (S : Int) ∧ u16 l 4 = v4 ∧ u16 l 6 = v6 ∧ hd l = (H : Int)) := ⟨hy0, hy6, hy8, hy9, hS, hv4, hv6, hH⟩
  have HC : Hid ((some (⟨bk, ao, none⟩ : Addr)) = none → c = 0) := hnil
  have HLL : Hid (l.length ≤ 140737488351232 ∧ l.length ≤ c ∧ c ≤ 9223372036854775807 ∧ 20 ≤ l.length) := ⟨hll, hc, hcm, by omega⟩
  have HB : Hid ((0 ≤ y6 ∧ y6 ≤ 255) ∧ (0 ≤ y8 ∧ y8 ≤ 255) ∧ (0 ≤ y9 ∧ y9 ≤ 255) ∧ (0 ≤ v4 ∧ v4 ≤ 65535) ∧ S ≤ 65535 ∧ H ≤ 60) := ⟨v6b, v8, v9, w4, wS, wH⟩
  have HE : Hid (bits .and .u8 (y6 / 32) 1 = t2 ∧ bits .and .i64 v6 8191 = f3 ∧ (0 ≤ f3 ∧ f3 ≤ 8191)) := ⟨E2, E3, wf3⟩
  have HA2 : Hid ((if c = 20 then some (⟨bk, ao, none⟩ : Addr) else some ⟨bk, ao + 20, none⟩) = a2) := ha2
  clear ub hH' hq hy0 hy6 hy7 hy8 hy9 hS hv4 hv6 hH hT hO ht2 hf3 hv67 v6b v7b v8 v9 w4 w6 wS hnil hll hc hcm h hlen E2 E3 wf3 ha2
  have c0 := CL.out 0 y0 W0 (by omega) EQ.out.1 p0
  rw [Nat.add_zero] at c0
  go_enter Try.func10, Try.ntmps10
  by_cases hver : y0 / 16 ≠ 4
  case pos =>
    have hp : Hid (perr l = 3) := by show perr l = 3; rw [PE.out, if_pos hver]
    have hver' : (y0 / 16 != 4) = true := by simpa using hver
    clear hver
    exfalso
    have h1 := hp.out
    have h2 := HZ.out
    first
      | omega
      | (have h3 := OV.out; omega)
  have hver' : (y0 / 16 != 4) = false := by simpa using hver
  have HV : Hid (¬ y0 / 16 ≠ 4) := hver
  clear hver
  by_cases hhd : (H : Int) < 20 ∨ (H : Int) > l.length
  case pos =>
    have hp : Hid (perr l = 4) := by show perr l = 4; rw [PE.out, if_neg HV.out, if_pos hhd]
    by_cases h20 : (H : Int) < 20
    · clear hhd
      exfalso
      have h1 := hp.out
      have h2 := HZ.out
      first
        | omega
        | (have h3 := OV.out; omega)
    · have h21 : (H : Int) > l.length := by omega
      clear hhd
      exfalso
      have h1 := hp.out
      have h2 := HZ.out
      first
        | omega
        | (have h3 := OV.out; omega)
  have h20 : ¬ (H : Int) < 20 := by omega
  have h21 : ¬ (H : Int) > l.length := by omega
  have HHD : Hid (¬ ((H : Int) < 20 ∨ (H : Int) > l.length)) := hhd
  clear hhd
  go_wp2_with fail
  refine (KW.out 2 (S : Int) _ (by decide) (by have := HLL.out; omega) EQ.out.2.2.2.2.1 p0).mono ?_
  rintro e W1 ⟨rfl, b1⟩
  have p1 := p0.step b1
  clear b1 p0 c0 hver' hW0 e15 hqH wq hlen'
  by_cases hsz : (S : Int) < H ∨ (S : Int) > l.length
  case pos =>
    have hp : Hid (perr l = 5) := by show perr l = 5; rw [PE.out, if_neg HV.out, if_neg HHD.out, if_pos hsz]
    by_cases h22 : (S : Int) < H
    · clear hsz
      have zz := p1.z
      obtain ⟨d0, d1, d2, d3, d4, d5, d6, d7, d8, d9, d10, d11, d12, d13, d14, dz⟩ := p1.z
      have bl := p1.bel
      go_wp2
      exact rparse_ret (sIp_set zz _ _ _ _ _ _ _ _ _ _ _ _ _ _ _) rfl rfl rfl (BAD.out 5 _ hp (by decide) (set15_below bl (Nat.le_refl _) _ _ _ _ _ _ _ _ _ _ _ _ _ _ _))
    · have h23 : (S : Int) > l.length := by omega
      clear hsz
      have zz := p1.z
      obtain ⟨d0, d1, d2, d3, d4, d5, d6, d7, d8, d9, d10, d11, d12, d13, d14, dz⟩ := p1.z
      have bl := p1.bel
      go_wp2
      exact rparse_ret (sIp_set zz _ _ _ _ _ _ _ _ _ _ _ _ _ _ _) rfl rfl rfl (BAD.out 5 _ hp (by decide) (set15_below bl (Nat.le_refl _) _ _ _ _ _ _ _ _ _ _ _ _ _ _ _))
  have h22 : ¬ (S : Int) < H := by omega
  have h23 : ¬ (S : Int) > l.length := by omega
  have HH : Hid (¬ y0 / 16 ≠ 4 ∧ ¬ ((H : Int) < 20 ∨ (H : Int) > l.length) ∧ ¬ ((S : Int) < H ∨ (S : Int) > l.length)) := ⟨HV.out, HHD.out, hsz⟩
  have HN : Hid (20 ≤ H ∧ H ≤ l.length ∧ H ≤ S ∧ S ≤ l.length) := ⟨by omega, by omega, by omega, by omega⟩
  clear hsz HV HHD v0
  have hHl := HN.out.2.1
  have hc := HLL.out.2.1
  go_wp2_with fail
  refine (KS.out hHl W1 p1).mono ?_
  rintro e W2 ⟨rfl, hW2⟩
  have p2 : RF w (some ⟨bk, ao, none⟩) l W2 := by rw [hW2]; exact p1.step ((Below.refl _ _).alloc (Nat.le_refl _) _)
  clear hW2 p1 h20 h21 h22 h23 hHl hc
  by_cases hsum : T ≠ 65535
  case pos =>
    have hp : Hid (perr l = 6) := by show perr l = 6; rw [PE.out, if_neg HH.out.1, if_neg HH.out.2.1, if_neg HH.out.2.2, if_pos hsum]
    have hsum' : (T != 65535) = true := by simpa using hsum
    clear hsum
    exfalso
    have h1 := hp.out
    have h2 := HZ.out
    first
      | omega
      | (have h3 := OV.out; omega)
  have hsum' : (T != 65535) = false := by simpa using hsum
  have HS : Hid (¬ T ≠ 65535) := hsum
  clear hsum
  have c8 := CL.out 8 y8 W2 (by omega) EQ.out.2.2.1 p2
  have c6 := CL.out 6 y6 W2 (by omega) EQ.out.2.1 p2
  have hl20 := HLL.out.2.2.2
  by_cases hhop : y8 = 0
  case pos =>
    have hp : Hid (perr l = 26) := by show perr l = 26; rw [PE.out, if_neg HH.out.1, if_neg HH.out.2.1, if_neg HH.out.2.2, if_neg HS.out, if_pos hhop]
    have hhop' : (y8 == 0) = true := by simpa using hhop
    clear hhop
    exfalso
    have h1 := hp.out
    have h2 := HZ.out
    first
      | omega
      | (have h3 := OV.out; omega)
  have hhop' : (y8 == 0) = false := by simpa using hhop
  have HP2 : Hid (¬ y8 = 0) := hhop
  clear hhop
  have hb6 := HB.out.1
  by_cases hflag : y6 / 128 = 1
  case pos =>
    have hp : Hid (perr l = 10) := by show perr l = 10; rw [PE.out, if_neg HH.out.1, if_neg HH.out.2.1, if_neg HH.out.2.2, if_neg HS.out, if_neg HP2.out, if_pos hflag]
    have hflag' : (y6 / 128 == 1) = true := by simpa using hflag
    clear hflag
    exfalso
    have h1 := hp.out
    have h2 := HZ.out
    first
      | omega
      | (have h3 := OV.out; omega)
  have hflag' : (y6 / 128 == 1) = false := by simpa using hflag
  have HFL : Hid (¬ y6 / 128 = 1) := hflag
  clear hflag
  have hH20 := HN.out.1
  have hHl := HN.out.2.1
  have hc := HLL.out.2.1
  have ha2 := HA2.out
  go_wp2_with fail
  refine (KO.out hH20 hHl W2 p2).mono ?_
  rintro e W' ⟨rfl, hW'⟩
  rw [hW']
  clear hW' W' hH20 hHl hc ha2 hflag' hhop' hsum'
  by_cases hopt : O ≠ 0
  case pos =>
    have hp : Hid (perr l = O) := by show perr l = O; rw [PE.out, if_neg HH.out.1, if_neg HH.out.2.1, if_neg HH.out.2.2, if_neg HS.out, if_neg HP2.out, if_neg HFL.out, if_pos hopt]
    have hopt' : (O != 0) = true := by simpa using hopt
    have HO : Hid (O ≠ 0) := hopt
    clear hopt
    exfalso
    have h1 := hp.out
    have h2 := HZ.out
    first
      | omega
      | (have h3 := OV.out; omega)
      | (have h4 := HO.out; omega)
  have hopt' : (O != 0) = false := by simpa using hopt
  have HI : Hid (¬ T ≠ 65535 ∧ ¬ y8 = 0 ∧ ¬ y6 / 128 = 1 ∧ ¬ O ≠ 0) := ⟨HS.out, HP2.out, HFL.out, hopt⟩
  clear hopt HS HP2 HFL c8 c6
  go_wp2_with fail
  refine (KW.out 6 v6 _ (by decide) (by have := HLL.out; omega) EQ.out.2.2.2.2.2.2.1 p2).mono ?_
  rintro e W3 ⟨rfl, b3⟩
  have p3 := p2.step b3
  clear b3 p2 hopt'
  have c6 := CL.out 6 y6 W3 (by omega) EQ.out.2.1 p3
  obtain ⟨E2, E3, wf3⟩ := HE.out
  obtain ⟨Of, hOf⟩ : ∃ o, f3 * 8 = o := ⟨_, rfl⟩
  have HOf : Hid (f3 * 8 = Of) := hOf
  have wOf : 0 ≤ Of ∧ Of ≤ 65528 := by omega
  have wS := HB.out.2.2.2.2.1
  have hHS := HN.out.2.2.1
  obtain ⟨n, hn⟩ : ∃ n : Nat, (S : Int) - (H : Int) = (n : Int) := ⟨S - H, by omega⟩
  have wn : n ≤ 65535 := by omega
  have HNn : Hid ((S : Int) - (H : Int) = (n : Int)) := hn
  have m3 : (n : Int).tmod 8 = (n : Int) % 8 := Int.tmod_eq_emod_of_nonneg (by omega)
  by_cases hmul : t2 = 1 ∧ ((S : Int) - H) % 8 ≠ 0
  case pos =>
    have hp : Hid (perr l = 5) := by show perr l = 5; rw [PE.out, if_neg HH.out.1, if_neg HH.out.2.1, if_neg HH.out.2.2, if_neg HI.out.1, if_neg HI.out.2.1, if_neg HI.out.2.2.1, if_neg HI.out.2.2.2, if_pos hmul]
    have m1 : (t2 == 1) = true := by simpa using hmul.1
    have m2 : ((n : Int) % 8 != 0) = true := by
      have := hmul.2
      rw [hn] at this
      simpa using this
    clear hmul
    have zz := p3.z
    obtain ⟨d0, d1, d2, d3, d4, d5, d6, d7, d8, d9, d10, d11, d12, d13, d14, dz⟩ := p3.z
    have bl := p3.bel
    go_wp2
    exact rparse_ret (sIp_set zz _ _ _ _ _ _ _ _ _ _ _ _ _ _ _) rfl rfl rfl (BAD.out 5 _ hp (by decide) (set15_below bl (Nat.le_refl _) _ _ _ _ _ _ _ _ _ _ _ _ _ _ _))
  exfalso
  have h2 := HZ.out
  have h3 := OV.out
  rw [PE.out, if_neg HH.out.1, if_neg HH.out.2.1, if_neg HH.out.2.2, if_neg HI.out.1, if_neg HI.out.2.1, if_neg HI.out.2.2.1, if_neg HI.out.2.2.2, if_neg hmul] at h2
  repeat' split at h2
  all_goals omega

set_option maxRecDepth 100000 in
set_option maxHeartbeats 64000000 in
theorem rparse_e11 (a : Option Addr) (c : Nat) (l : List Int) (w : World) (h : Row w a l) (hnil : a = none → c = 0) (hll : l.length ≤ 140737488351232) (hc : l.length ≤ c) (hcm : c ≤ 9223372036854775807) (hz : perr l = 11) :
    Calls Try.prog 10 #[.slice a l.length c] w fun e w' => ∃ a' c', e = .returned (.tuple #[(parsed l).v (.slice none 0 0) (.slice a' (parsed l).data.length c'), .int .i64 (perr l)]) ∧ Fresh w w' a' c' (parsed l).data := by
  have HZ : Hid (perr l = 11) := hz
  clear hz
  have BAD : Hid (∀ (x : Int) (W : World), Hid (perr l = x) → x ≠ 0 → Below w.heap.size w W → ∃ a' c', Ending.returned (.tuple #[.agg zIp, .int .i64 x]) = .returned (.tuple #[(parsed l).v (.slice none 0 0) (.slice a' (parsed l).data.length c'), .int .i64 (perr l)]) ∧ Fresh w W a' c' (parsed l).data) := by
    rintro x W hx' hx hb
    have hx1 := hx'.out
    subst hx1
    refine ⟨none, 0, ?_, ?_⟩
    · unfold parsed
      rw [if_neg hx]
      rfl
    · unfold parsed
      rw [if_neg hx]
      exact ⟨Owns.nil _ _, Nat.le_refl _, fun _ => rfl, ⟨by simp [Pk.none], M.Bytes.nil, fun h => by simp [Pk.none] at h⟩, hb⟩
  obtain ⟨W0, hW0⟩ : ∃ W0, w.alloc (.cells zIp 29) = W0 := ⟨_, rfl⟩
  have b0 : Below w.heap.size w W0 := by rw [← hW0]; exact (Below.refl _ _).alloc (Nat.le_refl _) _
  have p0 : RF w a l W0 := ⟨h.below b0, by rw [← hW0]; exact zIp_new w, b0, by rw [← hW0]; simp⟩
  clear b0
  by_cases hlen : l.length < 20
  · have hp : Hid (perr l = 2) := by show perr l = 2; unfold perr; rw [if_pos hlen]
    have hlen' : (l.length : Int) < 20 := by omega
    go_enter Try.func10, Try.ntmps10
    exfalso
    have h1 := hp.out
    have h2 := HZ.out
    first
      | omega
      | (have h3 := OV.out; omega)
  have hlen' : ¬ (l.length : Int) < 20 := by omega
  obtain ⟨bk, ao, rfl, hcl0⟩ := h.cells (by omega)
  clear hcl0
  obtain ⟨y0, hy0⟩ : ∃ y, l.getD 0 0 = y := ⟨_, rfl⟩
  obtain ⟨y6, hy6⟩ : ∃ y, l.getD 6 0 = y := ⟨_, rfl⟩
  obtain ⟨y7, hy7⟩ : ∃ y, l.getD 7 0 = y := ⟨_, rfl⟩
  obtain ⟨y8, hy8⟩ : ∃ y, l.getD 8 0 = y := ⟨_, rfl⟩
  obtain ⟨y9, hy9⟩ : ∃ y, l.getD 9 0 = y := ⟨_, rfl⟩
  have v0 : 0 ≤ y0 ∧ y0 ≤ 255 := by rw [← hy0]; exact h.bytes.get 0
  have v6b : 0 ≤ y6 ∧ y6 ≤ 255 := by rw [← hy6]; exact h.bytes.get 6
  have v7b : 0 ≤ y7 ∧ y7 ≤ 255 := by rw [← hy7]; exact h.bytes.get 7
  have v8 : 0 ≤ y8 ∧ y8 ≤ 255 := by rw [← hy8]; exact h.bytes.get 8
  have v9 : 0 ≤ y9 ∧ y9 ≤ 255 := by rw [← hy9]; exact h.bytes.get 9
  have ub : ∀ k : Int, 0 ≤ u16 l k ∧ u16 l k ≤ 65535 := fun k => by
    have h1 := h.bytes.get k.toNat
    have h2 := h.bytes.get (k.toNat + 1)
    unfold u16
    omega
  obtain ⟨S, hS⟩ : ∃ S : Nat, u16 l 2 = (S : Int) := Int.eq_ofNat_of_zero_le (ub 2).1
  obtain ⟨v4, hv4⟩ : ∃ v, u16 l 4 = v := ⟨_, rfl⟩
  obtain ⟨v6, hv6⟩ : ∃ v, u16 l 6 = v := ⟨_, rfl⟩
  have hv67 : v6 = 256 * y6 + y7 := by rw [← hv6, ← hy6, ← hy7]; rfl
  have w4 : 0 ≤ v4 ∧ v4 ≤ 65535 := by rw [← hv4]; exact ub 4
  have w6 : 0 ≤ v6 ∧ v6 ≤ 65535 := by rw [← hv6]; exact ub 6
  have wS : S ≤ 65535 := by have := (ub 2).2; rw [hS] at this; omega
  obtain ⟨H, hH⟩ : ∃ H : Nat, hd l = (H : Int) := Int.eq_ofNat_of_zero_le (by unfold hd; omega)
  have hH' : y0 % 16 * 4 = (H : Int) := by rw [← hy0]; exact hH
  have wH : H ≤ 60 := by omega
  obtain ⟨q, hq⟩ : ∃ q, y0 % 16 = q := ⟨_, rfl⟩
  have e15 : bits .and .u8 y0 15 = q := by rw [u8_and15 _ v0.1 v0.2, hq]
  have hqH : q * 4 = (H : Int) := by rw [← hq]; exact hH'
  have wq : 0 ≤ q ∧ q ≤ 15 := by omega
  obtain ⟨T, hT⟩ : ∃ T, M.sumOf [l.take H] = T := ⟨_, rfl⟩
  obtain ⟨O, hO⟩ : ∃ O, opts ((l.take H).drop 20) = O := ⟨_, rfl⟩
  have OV : Hid (O = 0 ∨ O = 7 ∨ O = 8) := by rw [← hO]; exact optsGo_vals _ _
  obtain ⟨t2, ht2⟩ : ∃ t, y6 / 32 % 2 = t := ⟨_, rfl⟩
  obtain ⟨f3, hf3⟩ : ∃ f, v6 % 8192 = f := ⟨_, rfl⟩
  have E2 : bits .and .u8 (y6 / 32) 1 = t2 := by rw [u8_and1 _ (by omega) (by omega), ht2]
  have E3 : bits .and .i64 v6 8191 = f3 := by rw [i64_and8191, hf3]
  have wf3 : 0 ≤ f3 ∧ f3 ≤ 8191 := by omega
  have PE : Hid (perr l = if y0 / 16 ≠ 4 then 3 else if (H : Int) < 20 ∨ (H : Int) > l.length then 4 else if (S : Int) < H ∨ (S : Int) > l.length then 5 else if T ≠ 65535 then 6 else if y8 = 0 then 26 else if y6 / 128 = 1 then 10
      else if O ≠ 0 then O else if t2 = 1 ∧ ((S : Int) - H) % 8 ≠ 0 then 5 else if f3 * 8 + ((S : Int) - H) > 65515 then 11 else 0) := by
    show perr l = _
    have q1 : (v6 / 32768 % 2 ≠ 0) = (y6 / 128 = 1) := by apply propext; omega
    have q2 : (mr l = true) = (t2 = 1) := by
      unfold mr pl
      rw [hv6, ← ht2, decide_eq_true_eq]
      apply propext
      omega
    have q3 : ofs l = f3 * 8 := by unfold ofs pl; rw [hv6, hf3]
    unfold perr
    rw [if_neg hlen]
    simp only [q2, q3, sz, pl, hy0, hH, hS, hv6, hy8, Int.toNat_natCast, hT, hO, q1]
  obtain ⟨a2, ha2⟩ : ∃ a2, (if c = 20 then some (⟨bk, ao, none⟩ : Addr) else some ⟨bk, ao + 20, none⟩) = a2 := ⟨_, rfl⟩
  have KO : Hid (20 ≤ H → H ≤ l.length → ∀ W, RF w (some ⟨bk, ao, none⟩) l W → Calls Try.prog 33 #[.slice a2 (H - 20) (c - 20)] W fun e w' => e = .returned (.int .i64 O) ∧ w' = W) := by
    intro h1 h2 W p
    have hl1 : (l.take H).length = H := by rw [List.length_take]; omega
    have hl2 : ((l.take H).drop 20).length = H - 20 := by rw [List.length_drop, hl1]
    have hr0 := (p.row.take H).drop c 20 (by omega)
    have hr : Row W a2 ((l.take H).drop 20) := by
      rw [← ha2]
      simpa [Go.WideShapes.add_plain] using hr0
    have := roptions_any a2 (c - 20) _ W hr
    rw [hl2, hO] at this
    exact this
  have KS : Hid (H ≤ l.length → ∀ W, RF w (some ⟨bk, ao, none⟩) l W → Calls Try.prog 22 #[.slice (some ⟨W.heap.size, 0, none⟩) 1 1] (W.alloc (.cells #[.slice (some ⟨bk, ao, none⟩) H c] 27)) fun e w' => e = .returned (.int .i64 T) ∧ w' = W.alloc (.cells #[.slice (some ⟨bk, ao, none⟩) H c] 27)) := by
    intro h2 W p
    have hl1 : H = (l.take H).length := by rw [List.length_take]; omega
    have := refsum_any _ 1 [l.take H] _ (rowss_one' W 27 W.heap.size rfl _ c (l.take H) H hl1 (p.row.take H))
    rw [hT] at this
    exact this
  have KW : Hid (∀ (k y : Int) (W : World), 0 ≤ k → k + 2 ≤ l.length → u16 l k = y → RF w (some ⟨bk, ao, none⟩) l W → Calls Try.prog 32 #[.slice (some ⟨bk, ao, none⟩) l.length c, .int .i64 k] W fun e w' => e = .returned (.tuple #[.int .i64 y, .bool true]) ∧ Below W.heap.size W w') := by
    rintro k y W h0 hk rfl p
    exact ru16_yes _ c l k W p.row hnil hll hc hcm h0 hk
  have CL : Hid (∀ (k : Nat) (y : Int) (W : World), k < 20 → l.getD k 0 = y → RF w (some ⟨bk, ao, none⟩) l W → W.cell? ⟨bk, ao + k, none⟩ = some (.int .u8 y)) := by
    rintro k y W hk rfl p
    exact p.cell k (by omega)
  have EQ : Hid (l.getD 0 0 = y0 ∧ l.getD 6 0 = y6 ∧ l.getD 8 0 = y8 ∧ l.getD 9 0 = y9 ∧ u16 l 2 = (S : Int) ∧ u16 l 4 = v4 ∧ u16 l 6 = v6 ∧ hd l = (H : Int)) := ⟨hy0, hy6, hy8, hy9, hS, hv4, hv6, hH⟩
  have HC : Hid ((some (⟨bk, ao, none⟩ : Addr)) = none → c = 0) := hnil
  have HLL : Hid (l.length ≤ 140737488351232 ∧ l.length ≤ c ∧ c ≤ 9223372036854775807 ∧ 20 ≤ l.length) := ⟨hll, hc, hcm, by omega⟩
  have HB : Hid ((0 ≤ y6 ∧ y6 ≤ 255) ∧ (0 ≤ y8 ∧ y8 ≤ 255) ∧ (0 ≤ y9 ∧ y9 ≤ 255) ∧ (0 ≤ v4 ∧ v4 ≤ 65535) ∧ S ≤ 65535 ∧ H ≤ 60) := ⟨v6b, v8, v9, w4, wS, wH⟩
  have HE : Hid (bits .and .u8 (y6 / 32) 1 = t2 ∧ bits .and .i64 v6 8191 = f3 ∧ (0 ≤ f3 ∧ f3 ≤ 8191)) := ⟨E2, E3, wf3⟩
  have HA2 : Hid ((if c = 20 then some (⟨bk, ao, none⟩ : Addr) else some ⟨bk, ao + 20, none⟩) = a2) := ha2
  clear ub hH' hq hy0 hy6 hy7 hy8 hy9 hS hv4 hv6 hH hT hO ht2 hf3 hv67 v6b v7b v8 v9 w4 w6 wS hnil hll hc hcm h hlen E2 E3 wf3 ha2
  have c0 := CL.out 0 y0 W0 (by omega) EQ.out.1 p0
  rw [Nat.add_zero] at c0
  go_enter Try.func10, Try.ntmps10
  by_cases hver : y0 / 16 ≠ 4
  case pos =>
    have hp : Hid (perr l = 3) := by show perr l = 3; rw [PE.out, if_pos hver]
    have hver' : (y0 / 16 != 4) = true := by simpa using hver
    clear hver
    exfalso
    have h1 := hp.out
    have h2 := HZ.out
    first
      | omega
      | (have h3 := OV.out; omega)
  have hver' : (y0 / 16 != 4) = false := by simpa using hver
  have HV : Hid (¬ y0 / 16 ≠ 4) := hver
  clear hver
  by_cases hhd : (H : Int) < 20 ∨ (H : Int) > l.length
  case pos =>
    have hp : Hid (perr l = 4) := by show perr l = 4; rw [PE.out, if_neg HV.out, if_pos hhd]
    by_cases h20 : (H : Int) < 20
    · clear hhd
      exfalso
      have h1 := hp.out
      have h2 := HZ.out
      first
        | omega
        | (have h3 := OV.out; omega)
    · have h21 : (H : Int) > l.length := by omega
      clear hhd
      exfalso
      have h1 := hp.out
      have h2 := HZ.out
      first
        | omega
        | (have h3 := OV.out; omega)
  have h20 : ¬ (H : Int) < 20 := by omega
  have h21 : ¬ (H : Int) > l.length := by omega
  have HHD : Hid (¬ ((H : Int) < 20 ∨ (H : Int) > l.length)) := hhd
  clear hhd
  go_wp2_with fail
  refine (KW.out 2 (S : Int) _ (by decide) (by have := HLL.out; omega) EQ.out.2.2.2.2.1 p0).mono ?_
  rintro e W1 ⟨rfl, b1⟩
  have p1 := p0.step b1
  clear b1 p0 c0 hver' hW0 e15 hqH wq hlen'
  by_cases hsz : (S : Int) < H ∨ (S : Int) > l.length
  case pos =>
    have hp : Hid (perr l = 5) := by show perr l = 5; rw [PE.out, if_neg HV.out, if_neg HHD.out, if_pos hsz]
    by_cases h22 : (S : Int) < H
    · clear hsz
      exfalso
      have h1 := hp.out
      have h2 := HZ.out
      first
        | omega
        | (have h3 := OV.out; omega)
    · have h23 : (S : Int) > l.length := by omega
      clear hsz
      exfalso
      have h1 := hp.out
      have h2 := HZ.out
      first
        | omega
        | (have h3 := OV.out; omega)
  have h22 : ¬ (S : Int) < H := by omega
  have h23 : ¬ (S : Int) > l.length := by omega
  have HH : Hid (¬ y0 / 16 ≠ 4 ∧ ¬ ((H : Int) < 20 ∨ (H : Int) > l.length) ∧ ¬ ((S : Int) < H ∨ (S : Int) > l.length)) := ⟨HV.out, HHD.out, hsz⟩
  have HN : Hid (20 ≤ H ∧ H ≤ l.length ∧ H ≤ S ∧ S ≤ l.length) := ⟨by omega, by omega, by omega, by omega⟩
  clear hsz HV HHD v0
  have hHl := HN.out.2.1
  have hc := HLL.out.2.1
  go_wp2_with fail
  refine (KS.out hHl W1 p1).mono ?_
  rintro e W2 ⟨rfl, hW2⟩
  have p2 : RF w (some ⟨bk, ao, none⟩) l W2 := by rw [hW2]; exact p1.step ((Below.refl _ _).alloc (Nat.le_refl _) _)
  clear hW2 p1 h20 h21 h22 h23 hHl hc
  by_cases hsum : T ≠ 65535
  case pos =>
    have hp : Hid (perr l = 6) := by show perr l = 6; rw [PE.out, if_neg HH.out.1, if_neg HH.out.2.1, if_neg HH.out.2.2, if_pos hsum]
    have hsum' : (T != 65535) = true := by simpa using hsum
    clear hsum
    exfalso
    have h1 := hp.out
    have h2 := HZ.out
    first
      | omega
      | (have h3 := OV.out; omega)
  have hsum' : (T != 65535) = false := by simpa using hsum
  have HS : Hid (¬ T ≠ 65535) := hsum
  clear hsum
  have c8 := CL.out 8 y8 W2 (by omega) EQ.out.2.2.1 p2
  have c6 := CL.out 6 y6 W2 (by omega) EQ.out.2.1 p2
  have hl20 := HLL.out.2.2.2
  by_cases hhop : y8 = 0
  case pos =>
    have hp : Hid (perr l = 26) := by show perr l = 26; rw [PE.out, if_neg HH.out.1, if_neg HH.out.2.1, if_neg HH.out.2.2, if_neg HS.out, if_pos hhop]
    have hhop' : (y8 == 0) = true := by simpa using hhop
    clear hhop
    exfalso
    have h1 := hp.out
    have h2 := HZ.out
    first
      | omega
      | (have h3 := OV.out; omega)
  have hhop' : (y8 == 0) = false := by simpa using hhop
  have HP2 : Hid (¬ y8 = 0) := hhop
  clear hhop
  have hb6 := HB.out.1
  by_cases hflag : y6 / 128 = 1
  case pos =>
    have hp : Hid (perr l = 10) := by show perr l = 10; rw [PE.out, if_neg HH.out.1, if_neg HH.out.2.1, if_neg HH.out.2.2, if_neg HS.out, if_neg HP2.out, if_pos hflag]
    have hflag' : (y6 / 128 == 1) = true := by simpa using hflag
    clear hflag
    exfalso
    have h1 := hp.out
    have h2 := HZ.out
    first
      | omega
      | (have h3 := OV.out; omega)
  have hflag' : (y6 / 128 == 1) = false := by simpa using hflag
  have HFL : Hid (¬ y6 / 128 = 1) := hflag
  clear hflag
  have hH20 := HN.out.1
  have hHl := HN.out.2.1
  have hc := HLL.out.2.1
  have ha2 := HA2.out
  go_wp2_with fail
  refine (KO.out hH20 hHl W2 p2).mono ?_
  rintro e W' ⟨rfl, hW'⟩
  rw [hW']
  clear hW' W' hH20 hHl hc ha2 hflag' hhop' hsum'
  by_cases hopt : O ≠ 0
  case pos =>
    have hp : Hid (perr l = O) := by show perr l = O; rw [PE.out, if_neg HH.out.1, if_neg HH.out.2.1, if_neg HH.out.2.2, if_neg HS.out, if_neg HP2.out, if_neg HFL.out, if_pos hopt]
    have hopt' : (O != 0) = true := by simpa using hopt
    have HO : Hid (O ≠ 0) := hopt
    clear hopt
    exfalso
    have h1 := hp.out
    have h2 := HZ.out
    first
      | omega
      | (have h3 := OV.out; omega)
      | (have h4 := HO.out; omega)
  have hopt' : (O != 0) = false := by simpa using hopt
  have HI : Hid (¬ T ≠ 65535 ∧ ¬ y8 = 0 ∧ ¬ y6 / 128 = 1 ∧ ¬ O ≠ 0) := ⟨HS.out, HP2.out, HFL.out, hopt⟩
  clear hopt HS HP2 HFL c8 c6
  go_wp2_with fail
  refine (KW.out 6 v6 _ (by decide) (by have := HLL.out; omega) EQ.out.2.2.2.2.2.2.1 p2).mono ?_
  rintro e W3 ⟨rfl, b3⟩
  have p3 := p2.step b3
  clear b3 p2 hopt'
  have c6 := CL.out 6 y6 W3 (by omega) EQ.out.2.1 p3
  obtain ⟨E2, E3, wf3⟩ := HE.out
  obtain ⟨Of, hOf⟩ : ∃ o, f3 * 8 = o := ⟨_, rfl⟩
  have HOf : Hid (f3 * 8 = Of) := hOf
  have wOf : 0 ≤ Of ∧ Of ≤ 65528 := by omega
  have wS := HB.out.2.2.2.2.1
  have hHS := HN.out.2.2.1
  obtain ⟨n, hn⟩ : ∃ n : Nat, (S : Int) - (H : Int) = (n : Int) := ⟨S - H, by omega⟩
  have wn : n ≤ 65535 := by omega
  have HNn : Hid ((S : Int) - (H : Int) = (n : Int)) := hn
  have m3 : (n : Int).tmod 8 = (n : Int) % 8 := Int.tmod_eq_emod_of_nonneg (by omega)
  by_cases hmul : t2 = 1 ∧ ((S : Int) - H) % 8 ≠ 0
  case pos =>
    have hp : Hid (perr l = 5) := by show perr l = 5; rw [PE.out, if_neg HH.out.1, if_neg HH.out.2.1, if_neg HH.out.2.2, if_neg HI.out.1, if_neg HI.out.2.1, if_neg HI.out.2.2.1, if_neg HI.out.2.2.2, if_pos hmul]
    have m1 : (t2 == 1) = true := by simpa using hmul.1
    have m2 : ((n : Int) % 8 != 0) = true := by
      have := hmul.2
      rw [hn] at this
      simpa using this
    clear hmul
    exfalso
    have h1 := hp.out
    have h2 := HZ.out
    first
      | omega
      | (have h3 := OV.out; omega)
  by_cases hov : f3 * 8 + ((S : Int) - H) > 65515
  case pos =>
    have hp : Hid (perr l = 11) := by show perr l = 11; rw [PE.out, if_neg HH.out.1, if_neg HH.out.2.1, if_neg HH.out.2.2, if_neg HI.out.1, if_neg HI.out.2.1, if_neg HI.out.2.2.1, if_neg HI.out.2.2.2, if_neg hmul, if_pos hov]
    have hov' : Of + (S : Int) - (H : Int) > 65515 := by have := HOf.out; omega
    clear hov
    by_cases m0 : t2 = 1
    · have m1 : (t2 == 1) = true := by simpa using m0
      have m2 : ((n : Int) % 8 != 0) = false := by
        have := not_and.1 hmul m0
        rw [hn] at this
        simpa using this
      clear m0 hmul
      have zz := p3.z
      obtain ⟨d0, d1, d2, d3, d4, d5, d6, d7, d8, d9, d10, d11, d12, d13, d14, dz⟩ := p3.z
      have bl := p3.bel
      go_wp2
      exact rparse_ret (sIp_set zz _ _ _ _ _ _ _ _ _ _ _ _ _ _ _) rfl rfl rfl (BAD.out 11 _ hp (by decide) (set15_below bl (Nat.le_refl _) _ _ _ _ _ _ _ _ _ _ _ _ _ _ _))
    · have m1 : (t2 == 1) = false := by simpa using m0
      clear m0 hmul
      have zz := p3.z
      obtain ⟨d0, d1, d2, d3, d4, d5, d6, d7, d8, d9, d10, d11, d12, d13, d14, dz⟩ := p3.z
      have bl := p3.bel
      go_wp2
      exact rparse_ret (sIp_set zz _ _ _ _ _ _ _ _ _ _ _ _ _ _ _) rfl rfl rfl (BAD.out 11 _ hp (by decide) (set15_below bl (Nat.le_refl _) _ _ _ _ _ _ _ _ _ _ _ _ _ _ _))
  exfalso
  have h2 := HZ.out
  have h3 := OV.out
  rw [PE.out, if_neg HH.out.1, if_neg HH.out.2.1, if_neg HH.out.2.2, if_neg HI.out.1, if_neg HI.out.2.1, if_neg HI.out.2.2.1, if_neg HI.out.2.2.2, if_neg hmul, if_neg hov] at h2
  repeat' split at h2
  all_goals omega
end Go.Proofs.Ytpcdmjjlgoeglaa
