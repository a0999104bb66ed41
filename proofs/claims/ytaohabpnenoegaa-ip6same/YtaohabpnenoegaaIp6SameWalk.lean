/- The law Ip6Same returns true. -/
import Derived.Test.YtaohabpnenoegaaIp6K
import Derived.BigRegion
namespace Go.Proofs.Ytaohabpnenoegaa
open Go.RowKit
set_option linter.unusedVariables false
set_option linter.unusedSimpArgs false

set_option maxRecDepth 100000 in
set_option maxHeartbeats 8000000 in
theorem ip6Same_walk (a : Option Addr) (c : Nat) (l : List Int) (W : World) (hc : l.length ≤ c) (hcm : c ≤ 140737488351232) (hnil : a = none → c = 0) (hr : Row W a l) :
    Calls Try.prog 8 #[.slice a l.length c] W fun e w' => e = .returned (.bool true) ∧ Below W.heap.size W w' := by
  have KP := parse6_any a c l W hr hnil (by omega) hc (by omega)
  unfold Got6 at KP
  have SM := fun h0 hf hx => same6 (l := l) h0 hf hx
  have PO := fun h0 => perr6_ok (l := l) h0
  obtain ⟨⟨F, ⟨sf, sh, sl⟩, ⟨df, dh, dl⟩, pr, ho, fg, id, of, mo, D⟩, hPK⟩ : ∃ P, parsed6 l = P := ⟨_, rfl⟩
  obtain ⟨E, hE⟩ : ∃ E, exts6 l = E := ⟨_, rfl⟩
  obtain ⟨er, her⟩ : ∃ er, perr6 l = er := ⟨_, rfl⟩
  rw [hPK, hE, her] at KP
  rw [hPK, hE, her] at SM
  rw [her] at PO
  simp only at KP SM
  have HKP : Hid _ := KP
  have HSM : Hid _ := SM
  have HPO : Hid _ := PO
  clear KP SM PO hPK hE her
  go_enter Try.func8, Try.ntmps8
  go_wp2_with fail
  refine Calls.mono HKP.out ?_
  rintro e W1 ⟨a1, c1, xa, xc, rfl, f1, o1, l8⟩
  obtain ⟨W2, hW2⟩ : ∃ W2, W1.alloc (.cells #[.int .i64 F, .int .i64 sf, .int .u64 sh, .int .u64 sl, .int .i64 df, .int .u64 dh, .int .u64 dl, .int .i64 pr, .int .i64 ho, .bool fg, .int .u32 id, .int .i64 of, .bool mo, .slice xa E.length xc, .slice a1 D.length c1] 38) = W2 := ⟨_, rfl⟩
  have b12 : Below W1.heap.size W1 W2 := by rw [← hW2]; exact (Below.refl _ _).alloc (Nat.le_refl _) _
  have s2 : SIp W2 W1.heap.size (.int .i64 F) (.int .i64 sf) (.int .u64 sh) (.int .u64 sl) (.int .i64 df) (.int .u64 dh) (.int .u64 dl) (.int .i64 pr) (.int .i64 ho) (.bool fg) (.int .u32 id) (.int .i64 of) (.bool mo) (.slice xa E.length xc) (.slice a1 D.length c1) := by rw [← hW2]; exact sIp_new W1 _ _ _ _ _ _ _ _ _ _ _ _ _ _ _
  have lt2 : W1.heap.size < W2.heap.size := World.block_lt_of_cell? W2 _ s2.c0
  have b2 : Below W.heap.size W W2 := f1.below.trans (b12.mono f1.below.size)
  have HB2 : Hid _ := b2
  have HS2 : Hid _ := s2
  have HX2 : Hid (RowI W2 xa E) := (o1.row (by omega)).below b12
  have HD2 : Hid (Row W2 a1 D) := f1.row.below b12
  have HR2 : Hid (Row W2 a l) := hr.below b2
  clear f1 o1 b12 b2 hr HKP
  obtain ⟨p0, p1, p2, p3, p4, p5, p6, p7, p8, p9, p10, p11, p12, p13, p14⟩ := s2
  have KV : Hid _ := alive6_any W2
  by_cases he : er = 0
  · subst he
    obtain ⟨h40, h5, hT, _⟩ := HPO.out rfl
    have h40' : ¬ (l.length : Int) < 40 := by omega
    have h40g : (40 : Int) ≤ (l.length : Int) := by omega
    clear hT HPO
    cases fg with
    | true =>
      clear HSM
      go_wp2_with fail
      refine Calls.mono KV.out ?_
      rintro e W3 ⟨rfl, b3⟩
      have B3 : Hid (Below W.heap.size W W3) := HB2.out.trans (b3.mono HB2.out.size)
      clear b3 KV
      go_wp2
      go_ret
      exact ⟨rfl, B3.out⟩
    | false =>
      obtain ⟨N, hN⟩ : ∃ N, E.length = N := ⟨_, rfl⟩
      have HN : Hid (E.length = N) := hN
      rw [hN] at p13 l8 HS2 hW2 ⊢
      clear hN
      go_wp2
      go_loop [42] (fun i => ∃ k : Nat, k ≤ N ∧ i = .int .i64 k ∧ Hid (∀ x ∈ E.take k, x ≠ 0 ∧ x ≠ 44)) (fun i => N - (intOf i).toNat)
      case atStart => exact ⟨0, Nat.zero_le _, rfl, by show ∀ x ∈ E.take 0, _; simp⟩
      case round =>
        obtain ⟨k, hk, rfl, HT⟩ := hrel
        clear hW2
        by_cases hlt : k < N
        · obtain ⟨b1, off, rfl, hcl⟩ := HX2.out.cells (by have := HN.out; omega)
          have c0 := hcl k (by have := HN.out; omega)
          have hlk : (k : Int) < (N : Int) := by omega
          have hst : Hid (E.take (k + 1) = E.take k ++ [E.getD k 0]) := by
            show _ = _
            rw [List.take_succ_eq_append_getElem (by have := HN.out; omega)]; simp [show k < E.length by have := HN.out; omega]
          clear hcl
          generalize E.getD k 0 = x at *
          by_cases hx0 : x = 0
          · subst hx0
            go_wp2_with fail
            refine Calls.mono KV.out ?_
            rintro e W3 ⟨rfl, b3⟩
            have B3 : Hid (Below W.heap.size W W3) := HB2.out.trans (b3.mono HB2.out.size)
            clear b3 KV
            go_wp2
            go_ret
            exact ⟨rfl, B3.out⟩
          have hx0' : (x == 0) = false := by simpa using hx0
          by_cases hx44 : x = 44
          · subst hx44
            go_wp2_with fail
            refine Calls.mono KV.out ?_
            rintro e W3 ⟨rfl, b3⟩
            have B3 : Hid (Below W.heap.size W W3) := HB2.out.trans (b3.mono HB2.out.size)
            clear b3 KV
            go_wp2
            go_ret
            exact ⟨rfl, B3.out⟩
          have hx44' : (x == 44) = false := by simpa using hx44
          go_wp2
          refine ⟨⟨k + 1, by omega, int_eq (by omega), ?_⟩, by simp [intOf]; omega⟩
          have : ∀ y ∈ E.take (k + 1), y ≠ 0 ∧ y ≠ 44 := by
            intro y hy
            rw [hst.out] at hy
            rcases List.mem_append.1 hy with h | h
            · exact HT.out y h
            · rw [List.mem_singleton.1 h]; exact ⟨hx0, hx44⟩
          exact this
        · have hlk : ¬ (k : Int) < (N : Int) := by omega
          have SM := HSM.out (by simp) (by simp) (by
            have := HT.out
            rw [List.take_of_length_le (by have := HN.out; omega)] at this
            exact this)
          obtain ⟨bk, off, rfl, hcl⟩ := HR2.out.cells (by omega)
          have k6 := hcl 6 (by omega)
          have i6 : (6 : Int) < (l.length : Int) := by omega
          have q6 := HR2.out.bytes.get 6
          have qs := u16_bd HR2.out.bytes 4
          have KU := ru16_yes (some ⟨bk, off, none⟩) c l 4 W2 HR2.out hnil (by omega) hc (by omega) (by decide) (by omega)
          obtain ⟨x6, e6⟩ : ∃ x, l.getD 6 0 = x := ⟨_, rfl⟩
          obtain ⟨sz, es⟩ : ∃ x, u16 l 4 = x := ⟨_, rfl⟩
          rw [es] at KU qs h5
          rw [e6] at k6 q6
          rw [e6, es] at SM
          obtain ⟨m, rfl⟩ := Int.eq_ofNat_of_zero_le qs.1
          rw [Int.toNat_natCast] at SM
          have hm40 : 40 + m ≤ l.length := by omega
          have qm2 : m ≤ 65535 := by omega
          have KU' : Hid _ := KU
          have HSM2 : Hid _ := SM
          clear KU SM hcl e6 es HSM KV
          go_wp2_with fail
          refine Calls.mono KU'.out ?_
          rintro e W3 ⟨rfl, b3⟩
          have k6' := kept (b := bk) (o := off + 6) b3 k6
          have r3 := HR2.out.below b3
          have hlr : ((l.drop 40).take m).length = m := by rw [List.length_take, List.length_drop]; omega
          have hrest := (r3.drop c 40 hc).take m
          have hrest' : Row W3 (if c = 40 then some ⟨bk, off, none⟩ else some ⟨bk, off + 40, none⟩) ((l.drop 40).take m) := by
            by_cases hc40 : c = 40
            · rw [if_pos hc40] at hrest ⊢; exact hrest
            · rw [if_neg hc40] at hrest ⊢; simpa [Go.WideShapes.add_plain] using hrest
          obtain ⟨A, hA⟩ : ∃ A : Option Addr, (if c = 40 then some ⟨bk, off, none⟩ else some ⟨bk, off + 40, none⟩) = A := ⟨_, rfl⟩
          have hAn : A = none → c - 40 = 0 := by
            intro e
            rw [e] at hA
            split at hA <;> cases hA
          rw [hA] at hrest'
          have w40 : IntKind.i64.wrap (40 + (m : Int)) = 40 + (m : Int) := wraps_i64 _ (by omega) (by omega)
          have j1 : (40 : Int) + (m : Int) ≤ (c : Int) := by omega
          have j2 : 40 + m ≤ c := by omega
          have q61 : 0 ≤ x6 := q6.1
          have q62 : x6 ≤ 255 := q6.2
          have wx6 : IntKind.i64.wrap x6 = x6 := wraps_i64 _ (by omega) (by omega)
          have h5' : ¬ (m : Int) > (l.length : Int) - 40 := by omega
          have j3 : (0 : Int) ≤ 40 + (m : Int) := by omega
          have j4 : (40 : Int) ≤ 40 + (m : Int) := by omega
          have j5 : (40 + (m : Int)).toNat = 40 + m := by omega
          have j6 : 40 + m - 40 = m := by omega
          have KK : Hid (∀ W', Below W3.heap.size W3 W' → Calls Try.prog 10 #[.int .i64 x6, .slice A m (c - 40)] W' fun e w' => ∃ ya yc a' c', e = .returned (.tuple #[.int .i64 pr, .slice ya N yc, .slice a' D.length c', .int .i64 0]) ∧ w'.cell? ⟨bk, off + 6, none⟩ = some (.int .u8 x6) ∧ RowI w' ya E ∧ Row w' a' D ∧ Below W3.heap.size W3 w') := by
            intro W' hW'
            have K := walk6_any x6 A (c - 40) ((l.drop 40).take m) W' (hrest'.below hW') (by rw [hlr]; omega) (by omega) hAn
            obtain ⟨s0, s1, s2, s3⟩ := HSM2.out
            rw [s0, s1, s2, s3, hlr] at K
            refine Calls.mono K ?_
            rintro e w' ⟨ya, yc, a', c', rfl, fr, ow, _⟩
            have hb := hW'.trans (fr.below.mono hW'.size)
            exact ⟨ya, yc, a', c', by rw [HN.out], kept hb k6', ow.row (by have := HN.out; omega), fr.row, hb⟩
          obtain ⟨p0, p1, p2, p3, p4, p5, p6, p7, p8, p9, p10, p11, p12, p13, p14⟩ := HS2.out.below lt2 b3
          have HB3 : Hid (Below W.heap.size W W3) := HB2.out.trans (b3.mono HB2.out.size)
          have HX3 : Hid (RowI W3 xa E) := HX2.out.below b3
          have HD3 : Hid (Row W3 a1 D) := HD2.out.below b3
          have lt3 : W1.heap.size < W3.heap.size := Nat.lt_of_lt_of_le lt2 b3.size
          have HS3 : Hid _ := HS2.out.below lt2 b3
          clear KU' HSM2 k6 r3 hrest hrest' hlr b3 q6 h5 HB2 HX2 HD2 HR2 HS2 hAn
          go_wp2_with fail
          go_region_held3 (fun w' => w'.cell? ⟨bk, off + 6, none⟩ = some (.int .u8 x6)) (go_keep) (first
            | (go_at_call 10; refine (KK.out _ ((Below.refl _ _).drew)).mono ?_; rintro e W4 ⟨ya, yc, a4, c4, rfl, g6, ry, rd, b4⟩))
          have HS4 := HS3.out.below lt3 b4
          obtain ⟨p0, p1, p2, p3, p4, p5, p6, p7, p8, p9, p10, p11, p12, p13, p14⟩ := HS4
          have KI := sameInts_any ya xa yc xc E E W4 ry (HX3.out.below b4)
          rw [show decide (E = E) = true by simp, HN.out] at KI
          have HKI : Hid _ := KI
          have HD4 : Hid (Row W4 a1 D ∧ Row W4 a4 D) := ⟨HD3.out.below b4, rd⟩
          have HB4 : Hid (Below W.heap.size W W4) := HB3.out.trans (b4.mono HB3.out.size)
          clear KI ry rd b4 KK HB3 HX3 HD3 HS3
          go_wp2_with fail
          refine Calls.mono HKI.out ?_
          rintro e W5 ⟨rfl, n5, hw5⟩
          have b5 : Below W4.heap.size W4 W5 := by rw [hw5]; exact below_drewN (Below.refl _ _) n5
          have p14' := kept b5 p14
          have HKS : Hid _ := same_any a4 a1 c4 c1 D W5 (HD4.out.2.below b5) (HD4.out.1.below b5)
          have HB5 : Hid (Below W.heap.size W W5) := HB4.out.trans (b5.mono HB4.out.size)
          clear hw5 HKI b5
          go_wp2_with fail
          refine Calls.mono HKS.out ?_
          rintro e W6 ⟨rfl, hw6⟩
          rw [hw6]
          clear hw6 HKS W6
          go_wp2_with fail
          refine (alive6_any W5).mono ?_
          rintro e W7 ⟨rfl, b7⟩
          have bc : Hid (Below W.heap.size W W7) := HB5.out.trans (b7.mono HB5.out.size)
          clear b7
          go_wp2
          go_ret
          exact ⟨rfl, bc.out⟩
  · have he' : (er != 0) = true := by simpa using he
    clear HSM HPO
    go_wp2_with fail
    refine Calls.mono KV.out ?_
    rintro e W3 ⟨rfl, b3⟩
    have B3 : Hid (Below W.heap.size W W3) := HB2.out.trans (b3.mono HB2.out.size)
    clear b3 KV
    go_wp2
    go_ret
    exact ⟨rfl, B3.out⟩
end Go.Proofs.Ytaohabpnenoegaa
