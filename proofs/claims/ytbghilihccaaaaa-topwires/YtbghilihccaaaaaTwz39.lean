/- Texts joined: Ip4E -/
import Derived.Test.YtbghilihccaaaaaTwz38
namespace Go.Proofs.Ytbghilihccaaaaa
open Go.RowKit
set_option linter.unusedVariables false
set_option linter.unusedSimpArgs false
theorem rowss_four (w : World) (t : TypeId) (n : Nat) (hn : n = w.heap.size) (a b c d : Option Addr) (ca cb cc cd : Nat) (la lb lc ld : List Int) (ha : Row w a la) (hb : Row w b lb) (hc : Row w c lc) (hd : Row w d ld) :
    Rowss (w.alloc (.cells #[.slice a la.length ca, .slice b lb.length cb, .slice c lc.length cc, .slice d ld.length cd] t)) (some ⟨n, 0, none⟩) [la, lb, lc, ld] := by
  subst hn
  refine ⟨by simp, fun _ => ⟨w.heap.size, 0, rfl, fun i hi => ?_⟩⟩
  have hi' : i < 4 := by simpa using hi
  match i, hi' with
  | 0, _ => exact ⟨a, ca, by simp, ha.alloc _⟩
  | 1, _ => exact ⟨b, cb, by simp, hb.alloc _⟩
  | 2, _ => exact ⟨c, cc, by simp, hc.alloc _⟩
  | 3, _ => exact ⟨d, cd, by simp, hd.alloc _⟩
theorem four_nil (w : World) (t : TypeId) (a b c d : Option Addr) (ca cb cc cd : Nat) (la lb lc ld : List Int) (ha : a = none → ca = 0) (hb : b = none → cb = 0) (hc : c = none → cc = 0) (hd : d = none → cd = 0) :
    ∀ i, i < ([la, lb, lc, ld] : List (List Int)).length → ∀ a' c', (∃ b' off, (some (⟨w.heap.size, 0, none⟩ : Addr)) = some ⟨b', off, none⟩ ∧ (w.alloc (.cells #[.slice a la.length ca, .slice b lb.length cb, .slice c lc.length cc, .slice d ld.length cd] t)).cell? ⟨b', off + i, none⟩ = some (.slice a' (([la, lb, lc, ld] : List (List Int)).getD i []).length c')) → a' = none → c' = 0 := by
  rintro i hi a' c' ⟨b', off, e, h⟩
  simp only [Option.some.injEq, Addr.mk.injEq] at e
  obtain ⟨rfl, rfl, _⟩ := e
  have hi' : i < 4 := by simpa using hi
  match i, hi', h with
  | 0, _, h => simp at h; obtain ⟨rfl, rfl⟩ := h; exact ha
  | 1, _, h => simp at h; obtain ⟨rfl, rfl⟩ := h; exact hb
  | 2, _, h => simp at h; obtain ⟨rfl, rfl⟩ := h; exact hc
  | 3, _, h => simp at h; obtain ⟨rfl, rfl⟩ := h; exact hd
set_option maxRecDepth 100000 in
set_option maxHeartbeats 8000000 in
theorem build_yes (f sf sh sl df dh dl pr ho : Int) (fg : Bool) (id of : Int) (mo : Bool) (xa : Option Addr) (xc : Nat) (da : Option Addr) (dat : List Int) (dc : Nat) (w : World) (hdr : Row w da dat) (hdn : da = none → dc = 0) (hok : Pk.ok (⟨f, ⟨sf, sh, sl⟩, ⟨df, dh, dl⟩, pr, ho, fg, id, of, mo, dat⟩ : Pk)) (hm : May (⟨f, ⟨sf, sh, sl⟩, ⟨df, dh, dl⟩, pr, ho, fg, id, of, mo, dat⟩ : Pk)) :
    Calls Try.prog 39 #[.agg #[.int .i64 f, .int .i64 sf, .int .u64 sh, .int .u64 sl, .int .i64 df, .int .u64 dh, .int .u64 dl, .int .i64 pr, .int .i64 ho, .bool fg, .int .u32 id, .int .i64 of, .bool mo, .slice xa 0 xc, .slice da dat.length dc]] w fun e w' => ∃ a' c', e = .returned (.tuple #[.slice a' (Pk.made (Pk.bare (⟨f, ⟨sf, sh, sl⟩, ⟨df, dh, dl⟩, pr, ho, fg, id, of, mo, dat⟩ : Pk))).length c', .int .i64 0]) ∧ Fresh w w' a' c' (Pk.made (Pk.bare (⟨f, ⟨sf, sh, sl⟩, ⟨df, dh, dl⟩, pr, ho, fg, id, of, mo, dat⟩ : Pk))) := by
  have hmay : Pk.may (⟨f, ⟨sf, sh, sl⟩, ⟨df, dh, dl⟩, pr, ho, fg, id, of, mo, dat⟩ : Pk) 0 = true := may_iff.2 ⟨hm, rfl⟩
  have b0 : Below w.heap.size w (w.alloc (.cells #[.int .i64 f, .int .i64 sf, .int .u64 sh, .int .u64 sl, .int .i64 df, .int .u64 dh, .int .u64 dl, .int .i64 pr, .int .i64 ho, .bool fg, .int .u32 id, .int .i64 of, .bool mo, .slice xa 0 xc, .slice da dat.length dc] 42)) := (Below.refl _ _).alloc (Nat.le_refl _) _
  have s0 := sIp_new w (.int .i64 f) (.int .i64 sf) (.int .u64 sh) (.int .u64 sl) (.int .i64 df) (.int .u64 dh) (.int .u64 dl) (.int .i64 pr) (.int .i64 ho) (.bool fg) (.int .u32 id) (.int .i64 of) (.bool mo) (.slice xa 0 xc) (.slice da dat.length dc)
  have hdl := hdr.small
  have K1 := rightHead_any f sf sh sl df dh dl pr ho fg id of mo xa 0 xc da dat.length dc
  have K2 := fun W => rightPlace_any f sf sh sl df dh dl pr ho fg id of mo xa 0 xc da dat.length dc W hdl hok.off
  have e1 : (((f == 4) && (Ad.four ⟨sf, sh, sl⟩ && (Ad.four ⟨df, dh, dl⟩ && (((0 : Nat) == 0) && (decide (0 ≤ pr) && (decide (pr ≤ 255) && (decide (1 ≤ ho) && decide (ho ≤ 255)))))))) && (decide (id ≤ 65535) && (decide (0 ≤ of) && (decide (of % 8 = 0) && (decide (of ≤ 65515 - dat.length) && ((!fg || (mo || decide (of ≠ 0))) && (!mo || decide ((dat.length : Int) % 8 = 0)))))))) = true := hmay
  rw [Bool.and_eq_true] at e1
  rw [e1.1] at K1
  rw [e1.2] at K2
  have HK1 : Hid _ := K1
  have HK2 : Hid _ := K2
  -- the packet without what is not written
  obtain ⟨ID, OF, MO, hbare⟩ : ∃ ID OF MO, Pk.bare (⟨f, ⟨sf, sh, sl⟩, ⟨df, dh, dl⟩, pr, ho, fg, id, of, mo, dat⟩ : Pk) = ⟨f, ⟨sf, sh, sl⟩, ⟨df, dh, dl⟩, pr, ho, fg, ID, OF, MO, dat⟩ := by
    unfold Pk.bare
    cases fg
    · exact ⟨0, 0, false, rfl⟩
    · exact ⟨id, of, mo, rfl⟩
  have hbf : (fg = true → ID = id ∧ OF = of ∧ MO = mo) ∧ (fg = false → ID = 0 ∧ OF = 0 ∧ MO = false) := by
    unfold Pk.bare at hbare
    cases fg
    · simp only [Bool.false_eq_true, if_false, Pk.mk.injEq, true_and, and_true] at hbare
      exact ⟨fun h => (by cases h), fun _ => ⟨hbare.1.symm, hbare.2.1.symm, hbare.2.2.symm⟩⟩
    · simp only [if_true, Pk.mk.injEq, true_and, and_true] at hbare
      exact ⟨fun _ => ⟨hbare.1.symm, hbare.2.1.symm, hbare.2.2.symm⟩, fun h => (by cases h)⟩
  have mb := hm.bare
  have okb := ok_bare hok
  rw [hbare] at mb okb ⊢
  obtain ⟨PL, hPL⟩ : ∃ PL, OF / 8 + (if MO then 8192 else 0) = PL := ⟨_, rfl⟩
  obtain ⟨SB, hSB⟩ : ∃ SB, Ad.bytes ⟨sf, sh, sl⟩ = SB := ⟨_, rfl⟩
  obtain ⟨DB, hDB⟩ : ∃ DB, Ad.bytes ⟨df, dh, dl⟩ = DB := ⟨_, rfl⟩
  have lSB : SB.length = 4 := by rw [← hSB]; exact bytes4_len mb.sf mb.sr
  have lDB : DB.length = 4 := by rw [← hDB]; exact bytes4_len mb.df mb.dr
  have KB1 : Hid (∀ W, Calls Try.prog 54 #[.agg #[.int .i64 sf, .int .u64 sh, .int .u64 sl]] W fun e w' => ∃ a c, e = .returned (.slice a SB.length c) ∧ Fresh W w' a c SB) := by
    intro W
    have := bytes_any sf sh sl W okb.src
    rw [hSB] at this
    exact this
  have KB2 : Hid (∀ W, Calls Try.prog 54 #[.agg #[.int .i64 df, .int .u64 dh, .int .u64 dl]] W fun e w' => ∃ a c, e = .returned (.slice a DB.length c) ∧ Fresh W w' a c DB) := by
    intro W
    have := bytes_any df dh dl W okb.dst
    rw [hDB] at this
    exact this
  have hlen : (dat.length : Int) ≤ 65515 := by have h1 := mb.over; have h2 := mb.off0; simp only at h1 h2; omega
  obtain ⟨CK, hCK⟩ : ∃ CK, 65535 - M.sumOf [put16 (put16 (put16 [69, 0] (20 + (dat.length : Int))) ID) PL ++ [ho, pr], SB, DB] = CK := ⟨_, rfl⟩
  have HM : Hid (Pk.made ⟨f, ⟨sf, sh, sl⟩, ⟨df, dh, dl⟩, pr, ho, fg, ID, OF, MO, dat⟩ = [put16 (put16 (put16 (put16 [69, 0] (20 + (dat.length : Int))) ID) PL ++ [ho, pr]) CK, SB, DB, dat].flatten) := by
    show _ = _
    unfold Pk.made Pk.hdr Pk.chk Pk.front Pk.place
    simp only [hSB, hDB, hPL]
    rw [← hCK]
    simp only [put16, List.flatten_cons, List.flatten_nil, List.append_nil, List.append_assoc]
  have hho := mb.hop
  have hpr := mb.proto
  simp only at hho hpr
  have PB : Hid ((fg = true → ID = id ∧ OF = of ∧ MO = mo) ∧ (fg = false → ID = 0 ∧ OF = 0 ∧ MO = false)) := hbf
  have HPL : Hid (OF / 8 + (if MO then 8192 else 0) = PL) := hPL
  have HCK : Hid (65535 - M.sumOf [put16 (put16 (put16 [69, 0] (20 + (dat.length : Int))) ID) PL ++ [ho, pr], SB, DB] = CK) := hCK
  have HOK : Hid (0 ≤ id ∧ 0 ≤ of ∧ of ≤ 65515 ∧ id ≤ 65535) := ⟨hok.id.1, hm.off0, by have h1 := hm.over; simp only at h1; omega, hm.id⟩
  have HBD : Hid (M.Bytes SB ∧ M.Bytes DB) := by
    show _ ∧ _
    rw [← hSB, ← hDB]
    exact ⟨bytes_bytes _, bytes_bytes _⟩
  clear K1 K2 e1 hmay hbf mb okb hbare hPL hSB hDB hCK hok hm
  go_enter Try.func39, Try.ntmps39
  go_wp2_with fail
  refine (HK1.out _).mono ?_
  rintro e W1 ⟨rfl, b1⟩
  have b1' := b0.trans (b1.mono (by simp))
  have s1 := s0.below (by simp) b1
  have z1 := b1.size
  simp only [World.size_alloc] at z1
  have S1 : Hid (SIp W1 w.heap.size (.int .i64 f) (.int .i64 sf) (.int .u64 sh) (.int .u64 sl) (.int .i64 df) (.int .u64 dh) (.int .u64 dl) (.int .i64 pr) (.int .i64 ho) (.bool fg) (.int .u32 id) (.int .i64 of) (.bool mo) (.slice xa 0 xc) (.slice da dat.length dc)) := s1
  obtain ⟨d0, d1, d2, d3, d4, d5, d6, d7, d8, d9, d10, d11, d12, d13, d14⟩ := s1
  clear s0 b0 b1
  go_wp2_with fail
  refine (HK2.out _).mono ?_
  rintro e W2 ⟨rfl, b2⟩
  have b2' := b1'.trans (b2.mono (by omega))
  have s2 := S1.out.below (by omega) b2
  have z2 := Nat.le_trans z1 b2.size
  clear b2 b1' d0 d1 d2 d3 d4 d5 d6 d7 d8 d9 d10 d11 d12 d13 d14 z1 S1 HK1 HK2
  have S2 : Hid _ := s2
  obtain ⟨d0, d1, d2, d3, d4, d5, d6, d7, d8, d9, d10, d11, d12, d13, d14⟩ := s2
  have r2 : Hid (Row W2 da dat) := hdr.below b2'
  have B2 : Hid (Below w.heap.size w W2) := b2'
  clear hdr b2'
  go_upto_if 18 with (fail)
  go_cut [4, 5] (fun i p w' => i = .int .i64 ID ∧ p = .int .i64 PL ∧ ∃ n, w' = W2.drewN n)
  case first =>
    cases fg
    case false =>
      obtain ⟨e1, e2, e3⟩ := PB.out.2 rfl
      have e4 : Hid ((0 : Int) = PL) := by show _ = _; rw [← HPL.out, e2, e3]; rfl
      have e5 : Hid (0 = ID) := e1.symm
      clear e1 e2 e3
      go_wp2
      go_meet
      exact ⟨int_eq e5.out, int_eq e4.out, 0, rfl⟩
    case true =>
      obtain ⟨e1, e2, e3⟩ := PB.out.1 rfl
      obtain ⟨K, hK⟩ : ∃ K, of / 8 = K := ⟨_, rfl⟩
      obtain ⟨_, ho0, ho1, hid1⟩ := HOK.out
      have hq : of.tdiv 8 = K := by rw [Int.tdiv_eq_ediv_of_nonneg ho0, hK]
      have hK0 : 0 ≤ K ∧ K < 8192 := by omega
      have hor := or8192 K hK0.1 hK0.2
      have e4 : Hid (K + (if mo then 8192 else 0) = PL) := by show _ = _; rw [← HPL.out, e2, e3, hK]
      have e5 : Hid (id = ID) := e1.symm
      have hid0 := HOK.out.1
      clear e1 e2 e3 hK
      cases mo
      case false =>
        have e6 : Hid (K = PL) := by show _ = _; rw [← e4.out]; simp
        go_wp2_with fail
        go_quiet (fail)
        go_wp2
        go_meet
        exact ⟨int_eq e5.out, int_eq e6.out, nq, rfl⟩
      case true =>
        have e6 : Hid (K + 8192 = PL) := by show _ = _; rw [← e4.out]; simp
        go_wp2_with fail
        go_quiet (fail)
        go_wp2
        go_meet
        exact ⟨int_eq e5.out, int_eq e6.out, nq, rfl⟩
  case rest =>
    obtain ⟨rfl, rfl, n3, hn3⟩ := hcut
    have b3 : Below W2.heap.size W2 wc := by rw [hn3]; exact below_drewN (Below.refl _ _) _
    have s3 := S2.out.below (by omega) b3
    have B3 : Below w.heap.size w wc := B2.out.trans (b3.mono (by omega))
    have r3 : Row wc da dat := r2.out.below b3
    have z3 : w.heap.size + 1 ≤ wc.heap.size := Nat.le_trans z2 b3.size
    have S3 : Hid _ := s3
    have R3 : Hid (Row wc da dat) := r3
    have B3' : Hid (Below w.heap.size w wc) := B3
    clear b3 hn3 r3 B3 B2 r2 S2 z2 d0 d1 d2 d3 d4 d5 d6 d7 d8 d9 d10 d11 d12 d13 d14 PB HPL HOK W1 W2
    have eho : ho % 256 = ho := by omega
    have epr : pr % 256 = pr := by omega
    obtain ⟨n, hn⟩ : ∃ n : Nat, dat.length = n := ⟨_, rfl⟩
    obtain ⟨L1, hL1⟩ : ∃ L, put16 [69, 0] (20 + (dat.length : Int)) = L := ⟨_, rfl⟩
    obtain ⟨L2, hL2⟩ : ∃ L, put16 L1 ID = L := ⟨_, rfl⟩
    obtain ⟨L3, hL3⟩ : ∃ L, put16 L2 PL = L := ⟨_, rfl⟩
    obtain ⟨L4, hL4⟩ : ∃ L, L3 ++ [ho, pr] = L := ⟨_, rfl⟩
    obtain ⟨L5, hL5⟩ : ∃ L, put16 L4 CK = L := ⟨_, rfl⟩
    have HM2 := HM.out
    have HC2 := HCK.out
    rw [hL1, hL2, hL3, hL4, hL5] at HM2
    rw [hL1, hL2, hL3, hL4] at HC2
    have l1 : L1.length = 4 := by rw [← hL1, put16_length]; rfl
    have l2 : L2.length = 6 := by rw [← hL2, put16_length, l1]
    have l3 : L3.length = 8 := by rw [← hL3, put16_length, l2]
    have l4 : L4.length = 10 := by rw [← hL4, List.length_append, l3]; rfl
    have l5 : L5.length = 12 := by rw [← hL5, put16_length, l4]
    have HL4 : Hid (L3 ++ [ho, pr] = L4) := hL4
    have LL : Hid (L1.length = 4 ∧ L2.length = 6 ∧ L3.length = 8 ∧ L4.length = 10 ∧ L5.length = 12 ∧ SB.length = 4 ∧ DB.length = 4) := ⟨l1, l2, l3, l4, l5, lSB, lDB⟩
    have rA : Row (wc.alloc (.cells #[.int .u8 69, .int .u8 0] 5)) (some ⟨wc.heap.size, 0, none⟩) [69, 0] := row_at wc 5 [69, 0] wc.heap.size rfl (by simp) (M.Bytes.of rfl)
    have KP1 : Hid (Calls Try.prog 53 #[.slice (some ⟨wc.heap.size, 0, none⟩) 2 2, .int .i64 (20 + (dat.length : Int))] (wc.alloc (.cells #[.int .u8 69, .int .u8 0] 5)) fun e w' => ∃ a' c', e = .returned (.slice a' L1.length c') ∧ Fresh (wc.alloc (.cells #[.int .u8 69, .int .u8 0] 5)) w' a' c' L1) := by
      have := put16_any _ 2 [69, 0] (20 + (dat.length : Int)) _ rA (fun h => by cases h) (by simp)
      rw [hL1] at this
      exact this
    have KP2 : Hid (∀ (a' : Option Addr) (c' : Nat) (W : World), Row W a' L1 → (a' = none → c' = 0) → Calls Try.prog 53 #[.slice a' L1.length c', .int .i64 ID] W fun e w' => ∃ a c, e = .returned (.slice a L2.length c) ∧ Fresh W w' a c L2) := by
      intro a' c' W h1 h2
      have := put16_any a' c' L1 ID W h1 h2 (by omega)
      rw [hL2] at this
      exact this
    have KP3 : Hid (∀ (a' : Option Addr) (c' : Nat) (W : World), Row W a' L2 → (a' = none → c' = 0) → Calls Try.prog 53 #[.slice a' L2.length c', .int .i64 PL] W fun e w' => ∃ a c, e = .returned (.slice a L3.length c) ∧ Fresh W w' a c L3) := by
      intro a' c' W h1 h2
      have := put16_any a' c' L2 PL W h1 h2 (by omega)
      rw [hL3] at this
      exact this
    have KP5 : Hid (∀ (a' : Option Addr) (c' : Nat) (W : World), Row W a' L4 → (a' = none → c' = 0) → Calls Try.prog 53 #[.slice a' L4.length c', .int .i64 CK] W fun e w' => ∃ a c, e = .returned (.slice a L5.length c) ∧ Fresh W w' a c L5) := by
      intro a' c' W h1 h2
      have := put16_any a' c' L4 CK W h1 h2 (by omega)
      rw [hL5] at this
      exact this
    have HCC : Hid (65535 - M.sumOf [L4, SB, DB] = CK) := HC2
    have HMM : Hid (Pk.made ⟨f, ⟨sf, sh, sl⟩, ⟨df, dh, dl⟩, pr, ho, fg, ID, OF, MO, dat⟩ = [L5, SB, DB, dat].flatten) := HM2
    clear HM2 HC2 HM HCK hL1 hL2 hL3 hL4 hL5 hn n l1 l2 l3 l4 l5 lSB lDB rA
    -- step by step: behind wc memory only grows
    have st : ∀ W, Below wc.heap.size wc W → SIp W w.heap.size (.int .i64 f) (.int .i64 sf) (.int .u64 sh) (.int .u64 sl) (.int .i64 df) (.int .u64 dh) (.int .u64 dl) (.int .i64 pr) (.int .i64 ho) (.bool fg) (.int .u32 id) (.int .i64 of) (.bool mo) (.slice xa 0 xc) (.slice da dat.length dc) := fun W hb => S3.out.below (by omega) hb
    have ST : Hid _ := st
    clear st
    obtain ⟨d0, d1, d2, d3, d4, d5, d6, d7, d8, d9, d10, d11, d12, d13, d14⟩ := ST.out (wc.alloc (.cells #[.int .u8 69, .int .u8 0] 5)) ((Below.refl _ _).alloc (Nat.le_refl _) _)
    go_wp2_with fail
    refine KP1.out.mono ?_
    rintro e W4 ⟨a4, c4, rfl, f4⟩
    have B4 : Below wc.heap.size wc W4 := ((Below.refl _ _).alloc (Nat.le_refl _) _).trans (f4.below.mono (by simp))
    have q4 : Hid (Row W4 a4 L1 ∧ (a4 = none → c4 = 0)) := ⟨f4.row, f4.nil⟩
    have BB4 : Hid (Below wc.heap.size wc W4) := B4
    clear f4 B4 d0 d1 d2 d3 d4 d5 d6 d7 d8 d9 d10 d11 d12 d13 d14
    obtain ⟨d0, d1, d2, d3, d4, d5, d6, d7, d8, d9, d10, d11, d12, d13, d14⟩ := ST.out W4 BB4.out
    go_wp2_with fail
    refine (KP2.out a4 c4 W4 q4.out.1 q4.out.2).mono ?_
    rintro e W5 ⟨a5, c5, rfl, f5⟩
    have BB5 : Hid (Below wc.heap.size wc W5) := BB4.out.trans (f5.below.mono BB4.out.size)
    have q5 : Hid (Row W5 a5 L2 ∧ (a5 = none → c5 = 0)) := ⟨f5.row, f5.nil⟩
    clear f5 d0 d1 d2 d3 d4 d5 d6 d7 d8 d9 d10 d11 d12 d13 d14
    obtain ⟨d0, d1, d2, d3, d4, d5, d6, d7, d8, d9, d10, d11, d12, d13, d14⟩ := ST.out W5 BB5.out
    go_wp2_with fail
    refine (KP3.out a5 c5 W5 q5.out.1 q5.out.2).mono ?_
    rintro e W6 ⟨a6, c6, rfl, f6⟩
    have BB6 : Hid (Below wc.heap.size wc W6) := BB5.out.trans (f6.below.mono BB5.out.size)
    have own : Hid (Owns W6 wc.heap.size (.slice a6 L3.length c6) L3 ∧ M.Bytes L3) := ⟨owns_le BB5.out.size f6.owns, f6.row.bytes⟩
    have z6 : wc.heap.size ≤ W6.heap.size := BB6.out.size
    clear f6 d0 d1 d2 d3 d4 d5 d6 d7 d8 d9 d10 d11 d12 d13 d14
    obtain ⟨d0, d1, d2, d3, d4, d5, d6, d7, d8, d9, d10, d11, d12, d13, d14⟩ := ST.out W6 BB6.out
    have OW := own.out.1
    have hb3 := own.out.2
    have hr : Hid (L4.length ≤ 10) := by show _ ≤ _; have := LL.out; omega
    go_wp2_with (at_builtin; refine wpList_app2 _ rfl _ _ rfl wc.heap.size _ L3 rfl (OW.alloc _) hb3 _ 2 [ho, pr] rfl ?row (fun hh => by cases hh) L4 HL4.out ?c1 ?c2 ?_)
    case row =>
      refine row_at _ 5 [ho, pr] _ (by simp) (by simp) ?_
      intro z hz
      simp at hz
      omega
    case c1 => have := hr.out; omega
    case c2 => simp; omega
    intro a7 c7 W7 o7 hc7 hn7 r7 b7 _
    have BB7 : Hid (Below wc.heap.size wc W7) := (BB6.out.alloc z6 _).trans b7
    have R7 : Hid (Row W7 a7 L4 ∧ (a7 = none → c7 = 0) ∧ Row W7 da dat) := ⟨r7, hn7, R3.out.below BB7.out⟩
    clear d0 d1 d2 d3 d4 d5 d6 d7 d8 d9 d10 d11 d12 d13 d14 o7 hc7 hn7 r7 b7 OW hb3 own
    have kB : ∀ (x : Ad) (B : List Int) (W : World), (∀ W, Calls Try.prog 54 #[.agg #[.int .i64 x.fam, .int .u64 x.hi, .int .u64 x.lo]] W fun e w' => ∃ a c, e = .returned (.slice a B.length c) ∧ Fresh W w' a c B) → Below W7.heap.size W7 W →
        Calls Try.prog 54 #[.agg #[.int .i64 x.fam, .int .u64 x.hi, .int .u64 x.lo]] W fun e w' => ∃ a c, e = .returned (.slice a B.length c) ∧ (w'.cell? ⟨w.heap.size, 1, none⟩ = some (.int .i64 sf) ∧ w'.cell? ⟨w.heap.size, 2, none⟩ = some (.int .u64 sh) ∧ w'.cell? ⟨w.heap.size, 3, none⟩ = some (.int .u64 sl) ∧ w'.cell? ⟨w.heap.size, 4, none⟩ = some (.int .i64 df) ∧ w'.cell? ⟨w.heap.size, 5, none⟩ = some (.int .u64 dh) ∧ w'.cell? ⟨w.heap.size, 6, none⟩ = some (.int .u64 dl)) ∧ Fresh W w' a c B ∧ Below W7.heap.size W7 w' := by
      intro x B W hK hW
      refine (hK W).mono ?_
      rintro e w' ⟨a, c, rfl, fr⟩
      have hb : Below W7.heap.size W7 w' := hW.trans (fr.below.mono hW.size)
      obtain ⟨d0, d1, d2, d3, d4, d5, d6, d7, d8, d9, d10, d11, d12, d13, d14⟩ := ST.out w' (BB7.out.trans (hb.mono BB7.out.size))
      exact ⟨a, c, rfl, ⟨d1, d2, d3, d4, d5, d6⟩, fr, hb⟩
    have K8 : Hid (∀ W, Below W7.heap.size W7 W → Calls Try.prog 54 #[.agg #[.int .i64 sf, .int .u64 sh, .int .u64 sl]] W fun e w' => ∃ a c, e = .returned (.slice a SB.length c) ∧ (w'.cell? ⟨w.heap.size, 1, none⟩ = some (.int .i64 sf) ∧ w'.cell? ⟨w.heap.size, 2, none⟩ = some (.int .u64 sh) ∧ w'.cell? ⟨w.heap.size, 3, none⟩ = some (.int .u64 sl) ∧ w'.cell? ⟨w.heap.size, 4, none⟩ = some (.int .i64 df) ∧ w'.cell? ⟨w.heap.size, 5, none⟩ = some (.int .u64 dh) ∧ w'.cell? ⟨w.heap.size, 6, none⟩ = some (.int .u64 dl)) ∧ Fresh W w' a c SB ∧ Below W7.heap.size W7 w') := fun W hW => kB ⟨sf, sh, sl⟩ SB W KB1.out hW
    have K9 : Hid (∀ W, Below W7.heap.size W7 W → Calls Try.prog 54 #[.agg #[.int .i64 df, .int .u64 dh, .int .u64 dl]] W fun e w' => ∃ a c, e = .returned (.slice a DB.length c) ∧ (w'.cell? ⟨w.heap.size, 1, none⟩ = some (.int .i64 sf) ∧ w'.cell? ⟨w.heap.size, 2, none⟩ = some (.int .u64 sh) ∧ w'.cell? ⟨w.heap.size, 3, none⟩ = some (.int .u64 sl) ∧ w'.cell? ⟨w.heap.size, 4, none⟩ = some (.int .i64 df) ∧ w'.cell? ⟨w.heap.size, 5, none⟩ = some (.int .u64 dh) ∧ w'.cell? ⟨w.heap.size, 6, none⟩ = some (.int .u64 dl)) ∧ Fresh W w' a c DB ∧ Below W7.heap.size W7 w') := fun W hW => kB ⟨df, dh, dl⟩ DB W KB2.out hW
    clear kB KB1 KB2
    obtain ⟨d0, d1, d2, d3, d4, d5, d6, d7, d8, d9, d10, d11, d12, d13, d14⟩ := ST.out W7 BB7.out
    clear d0 d7 d8 d9 d10 d11 d12 d13 d14
    go_wp2
    go_region_held3 (fun w'' => w''.cell? ⟨w.heap.size, 1, none⟩ = some (.int .i64 sf) ∧ w''.cell? ⟨w.heap.size, 2, none⟩ = some (.int .u64 sh) ∧ w''.cell? ⟨w.heap.size, 3, none⟩ = some (.int .u64 sl) ∧ w''.cell? ⟨w.heap.size, 4, none⟩ = some (.int .i64 df) ∧ w''.cell? ⟨w.heap.size, 5, none⟩ = some (.int .u64 dh) ∧ w''.cell? ⟨w.heap.size, 6, none⟩ = some (.int .u64 dl)) (go_keep) (first
      | (go_at_call 54; (with_reducible show Calls _ _ _ (World.drew _) _); refine (K8.out _ (Below.refl _ _).drew).mono ?_; rintro e W8 ⟨a8, c8, rfl, ⟨q1, q2, q3, q4, q5, q6⟩, f8, b8⟩)
      | (go_at_call 54; refine (K9.out _ b8).mono ?_; rintro e W9 ⟨a9, c9, rfl, ⟨r1, r2, r3, r4, r5, r6⟩, f9, b9⟩))
    clear q1 q2 q3 q4 q5 q6 r1 r2 r3 r4 r5 r6 d1 d2 d3 d4 d5 d6 K8 K9
    have P9 : Hid (Row W9 a7 L4 ∧ (a7 = none → c7 = 0) ∧ Row W9 a8 SB ∧ (a8 = none → c8 = 0) ∧ Row W9 a9 DB ∧ (a9 = none → c9 = 0) ∧ Row W9 da dat) :=
      ⟨R7.out.1.below b9, R7.out.2.1, f8.row.below f9.below, f8.nil, f9.row, f9.nil, R7.out.2.2.below b9⟩
    have BB9 : Hid (Below wc.heap.size wc W9) := BB7.out.trans (b9.mono BB7.out.size)
    clear f8 f9 b8 b9 R7
    have KC : Hid (Calls Try.prog 55 #[.slice (some ⟨W9.heap.size, 0, none⟩) 3 3] (W9.alloc (.cells #[.slice a7 L4.length c7, .slice a8 SB.length c8, .slice a9 DB.length c9] 40)) fun e w' => e = .returned (.int .i64 CK) ∧ w' = W9.alloc (.cells #[.slice a7 L4.length c7, .slice a8 SB.length c8, .slice a9 DB.length c9] 40)) := by
      have := check_any _ 3 [L4, SB, DB] _ (rowss_three W9 40 W9.heap.size rfl a7 a8 a9 c7 c8 c9 L4 SB DB P9.out.1 P9.out.2.2.1 P9.out.2.2.2.2.1)
      rw [HCC.out] at this
      exact this
    go_wp2_with fail
    refine KC.out.mono ?_
    rintro e W9' ⟨rfl, h9'⟩
    rw [h9']
    clear h9' W9'
    go_wp2_with fail
    refine (KP5.out a7 c7 _ (P9.out.1.alloc _) P9.out.2.1).mono ?_
    rintro e W10 ⟨a10, c10, rfl, f10⟩
    have B10 : Below W9.heap.size W9 W10 := ((Below.refl _ _).alloc (Nat.le_refl _) _).trans (f10.below.mono (by simp))
    have BB10 : Hid (Below wc.heap.size wc W10) := BB9.out.trans (B10.mono BB9.out.size)
    have P10 : Hid (Row W10 a10 L5 ∧ (a10 = none → c10 = 0) ∧ Row W10 a8 SB ∧ Row W10 a9 DB ∧ Row W10 da dat) := ⟨f10.row, f10.nil, P9.out.2.2.1.below B10, P9.out.2.2.2.2.1.below B10, P9.out.2.2.2.2.2.2.below B10⟩
    clear f10 B10 KC
    obtain ⟨R, hR⟩ : ∃ R, [L5, SB, DB, dat].flatten = R := ⟨_, rfl⟩
    have hRl : R.length ≤ 65535 := by
      have := LL.out
      rw [← hR]
      simp only [List.flatten_cons, List.flatten_nil, List.append_nil, List.length_append]
      omega
    have KX : Hid (Calls Try.prog 56 #[.slice (some ⟨W10.heap.size, 0, none⟩) 4 4] (W10.alloc (.cells #[.slice a10 L5.length c10, .slice a8 SB.length c8, .slice a9 DB.length c9, .slice da dat.length dc] 40)) fun e w' => ∃ a' c', e = .returned (.slice a' R.length c') ∧ Fresh (W10.alloc (.cells #[.slice a10 L5.length c10, .slice a8 SB.length c8, .slice a9 DB.length c9, .slice da dat.length dc] 40)) w' a' c' R) :=
      concat_any _ 4 [L5, SB, DB, dat] _ (rowss_four W10 40 W10.heap.size rfl a10 a8 a9 da c10 c8 c9 dc L5 SB DB dat P10.out.1 P10.out.2.2.1 P10.out.2.2.2.1 P10.out.2.2.2.2) (four_nil W10 40 a10 a8 a9 da c10 c8 c9 dc L5 SB DB dat P10.out.2.1 P9.out.2.2.2.1 P9.out.2.2.2.2.2.1 hdn) R hR (by omega)
    have HR : Hid ([L5, SB, DB, dat].flatten = R) := hR
    clear hR
    obtain ⟨d0, d1, d2, d3, d4, d5, d6, d7, d8, d9, d10, d11, d12, d13, d14⟩ := ST.out W10 BB10.out
    clear d0 d1 d2 d3 d4 d5 d6 d7 d8 d9 d10 d11 d12 d13
    go_wp2_with fail
    refine KX.out.mono ?_
    rintro e W11 ⟨a11, c11, rfl, f11⟩
    have bb : Below w.heap.size w (W10.alloc (.cells #[.slice a10 L5.length c10, .slice a8 SB.length c8, .slice a9 DB.length c9, .slice da dat.length dc] 40)) :=
      (B3'.out.trans (BB10.out.mono (Nat.le_of_succ_le z3))).alloc (Nat.le_trans (Nat.le_of_succ_le z3) BB10.out.size) _
    have FF : Hid (Fresh w W11 a11 c11 R) := ⟨owns_le bb.size f11.owns, f11.room, f11.nil, f11.row, bb.trans (f11.below.mono bb.size)⟩
    clear f11 bb
    go_wp2
    go_ret2
    rw [HMM.out, HR.out]
    exact ⟨a11, c11, rfl, FF.out⟩
end Go.Proofs.Ytbghilihccaaaaa
