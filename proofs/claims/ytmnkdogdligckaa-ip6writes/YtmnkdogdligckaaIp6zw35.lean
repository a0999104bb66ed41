/- Texts joined: Ip6Bd -/
import Derived.Test.YtmnkdogdligckaaIp6zw34
namespace Go.Proofs.Ytmnkdogdligckaa
open Go.RowKit
set_option linter.unusedVariables false
set_option linter.unusedSimpArgs false
set_option maxRecDepth 100000 in
set_option maxHeartbeats 4000000 in
theorem rbuild6_yf (f sf sh sl df dh dl pr ho : Int) (id of : Int) (mo : Bool) (xa : Option Addr) (xc : Nat) (X : List Int) (da : Option Addr) (dat : List Int) (dc : Nat) (w : World) (hx : RowI w xa X) (hdr : Row w da dat) (hdn : da = none → dc = 0) (hsrc : Ad.ok ⟨sf, sh, sl⟩) (hdst : Ad.ok ⟨df, dh, dl⟩) (hid : 0 ≤ id ∧ id ≤ 4294967295) (hof : -9223372036854775808 ≤ of ∧ of ≤ 9223372036854775807) (hm : may6 f sf df pr ho false X of mo dat.length = true) :
    Calls Try.prog 19 #[.agg #[.int .i64 f, .int .i64 sf, .int .u64 sh, .int .u64 sl, .int .i64 df, .int .u64 dh, .int .u64 dl, .int .i64 pr, .int .i64 ho, .bool false, .int .u32 id, .int .i64 of, .bool mo, .slice xa X.length xc, .slice da dat.length dc]] w fun e w' => ∃ a' c', e = .returned (.tuple #[.slice a' (made6 pr ho (Ad.bytes ⟨sf, sh, sl⟩) (Ad.bytes ⟨df, dh, dl⟩) ([] : List Int) dat).length c', .int .i64 0]) ∧ Fresh w w' a' c' (made6 pr ho (Ad.bytes ⟨sf, sh, sl⟩) (Ad.bytes ⟨df, dh, dl⟩) ([] : List Int) dat) := by
  obtain ⟨W1, hW1⟩ : ∃ W1, w.alloc (.cells #[.int .i64 f, .int .i64 sf, .int .u64 sh, .int .u64 sl, .int .i64 df, .int .u64 dh, .int .u64 dl, .int .i64 pr, .int .i64 ho, .bool false, .int .u32 id, .int .i64 of, .bool mo, .slice xa X.length xc, .slice da dat.length dc] 38) = W1 := ⟨_, rfl⟩
  have b1 := bel_nw hW1
  have P1 := blk_nw hW1
  have hdl := hdr.small
  have KM : Hid _ := rmay6_any f sf sh sl df dh dl pr ho false id of mo xa xc X da dat dc W1 (hx.below b1) hdl hof
  rw [hm] at KM
  have hn' : sf = 6 ∧ df = 6 ∧ 0 ≤ pr ∧ pr ≤ 255 ∧ 1 ≤ ho ∧ ho ≤ 255 ∧ dat.length ≤ 65000 := by
    unfold may6 rn at hm
    simp only [Bool.and_eq_true, decide_eq_true_eq] at hm
    obtain ⟨⟨⟨⟨h1, h2, h3, h4, h5, h6, h7⟩, _⟩, h8⟩, _⟩ := hm
    exact ⟨h2, h3, h4, h5, h6, h7, h8⟩
  obtain ⟨hs6, hd6, p0, p1, h0, h1, hd65⟩ := hn'
  have rS : Ad.right ⟨sf, sh, sl⟩ = true := by unfold Ad.right; rw [hs6]; rfl
  have rD : Ad.right ⟨df, dh, dl⟩ = true := by unfold Ad.right; rw [hd6]; rfl
  obtain ⟨SB, hSB⟩ : ∃ SB, Ad.bytes ⟨sf, sh, sl⟩ = SB := ⟨_, rfl⟩
  obtain ⟨DB, hDB⟩ : ∃ DB, Ad.bytes ⟨df, dh, dl⟩ = DB := ⟨_, rfl⟩
  have KB1 : Hid (∀ W, Calls Try.prog 40 #[.agg #[.int .i64 sf, .int .u64 sh, .int .u64 sl]] W fun e w' => ∃ a c, e = .returned (.slice a SB.length c) ∧ Fresh W w' a c SB) := by
    intro W
    have := rbytes_right sf sh sl W hsrc rS
    rw [hSB] at this
    exact this
  have KB2 : Hid (∀ W, Calls Try.prog 40 #[.agg #[.int .i64 df, .int .u64 dh, .int .u64 dl]] W fun e w' => ∃ a c, e = .returned (.slice a DB.length c) ∧ Fresh W w' a c DB) := by
    intro W
    have := rbytes_right df dh dl W hdst rD
    rw [hDB] at this
    exact this
  have lSB : SB.length ≤ 16 := by rw [← hSB]; exact bytes_le _
  have lDB : DB.length ≤ 16 := by rw [← hDB]; exact bytes_le _
  rw [hSB, hDB]
  have epr : IntKind.u8.wrap pr = pr := by rw [IntKind.wrap_u8]; omega
  have eho : IntKind.u8.wrap ho = ho := by rw [IntKind.wrap_u8]; omega
  clear hSB hDB hx hsrc hdst hs6 hd6 rS rD
  obtain ⟨E, hE⟩ : ∃ E : List Int, E = [] := ⟨_, rfl⟩
  have lE : E.length ≤ 8 := by rw [hE]; simp
  rw [← hE]
  have HE : Hid (E = []) := hE
  have HE0 : Hid (E.length = 0) := by
    have : E.length = 0 := by rw [hE]; rfl
    exact this
  clear hm hE
  obtain ⟨L1, hL1⟩ : ∃ L, put16 [96, 0, 0, 0] ((E.length : Int) + dat.length) = L := ⟨_, rfl⟩
  obtain ⟨L2, hL2⟩ : ∃ L, L1 ++ [pr, ho] = L := ⟨_, rfl⟩
  have l1 : L1.length = 6 := by rw [← hL1]; simp [put16]
  have l2 : L2.length = 8 := by rw [← hL2, List.length_append, l1]; rfl
  obtain ⟨L3, hL3⟩ : ∃ L, L2 ++ SB = L := ⟨_, rfl⟩
  obtain ⟨L4, hL4⟩ : ∃ L, L3 ++ DB = L := ⟨_, rfl⟩
  obtain ⟨L5, hL5⟩ : ∃ L, L4 ++ E = L := ⟨_, rfl⟩
  obtain ⟨R, hR⟩ : ∃ L, L5 ++ dat = L := ⟨_, rfl⟩
  have l3 : L3.length ≤ 24 := by rw [← hL3, List.length_append]; omega
  have l4 : L4.length ≤ 40 := by rw [← hL4, List.length_append]; omega
  have l5 : L5.length ≤ 48 := by rw [← hL5, List.length_append]; omega
  have l6 : R.length ≤ 65048 := by rw [← hR, List.length_append]; omega
  have eM : made6 pr ho SB DB E dat = R := by
    unfold made6
    rw [hL1, hL2, ← hR, ← hL5, ← hL4, ← hL3]
    simp only [List.flatten_cons, List.flatten_nil, List.append_nil, List.append_assoc]
  rw [eM]
  have G2 : Hid (L1 ++ [pr, ho] = L2) := hL2
  have G3 : Hid (L2 ++ SB = L3) := hL3
  have G4 : Hid (L3 ++ DB = L4) := hL4
  have G5 : Hid (L4 ++ E = L5) := hL5
  have G6 : Hid (L5 ++ dat = R) := hR
  have l1' : L1.length ≤ 6 := by omega
  have l2' : L2.length ≤ 8 := by omega
  have KPu : Hid (∀ W a, Row W a [96, 0, 0, 0] → a ≠ none → Calls Try.prog 39 #[.slice a 4 4, .int .i64 ((E.length : Int) + dat.length)] W fun e w' => ∃ a' c', e = .returned (.slice a' L1.length c') ∧ Fresh W w' a' c' L1) := fun W a hr hne => by
    have := rput16_any a 4 [96, 0, 0, 0] ((E.length : Int) + dat.length) W hr (fun h => absurd h hne) (by simp)
    rw [hL1] at this
    exact this
  have wEd1 : IntKind.i64.wrap (dat.length : Int) = (E.length : Int) + dat.length := by rw [HE0.out]; simp; exact wraps_i64 _ (by omega) (by omega)
  have wEd0 : IntKind.i64.wrap (0 + (dat.length : Int)) = (E.length : Int) + dat.length := by rw [HE0.out]; exact wraps_i64 _ (by omega) (by omega)
  clear hL1 hL2 hL3 hL4 hL5 hR eM l1 l2
  go_enter Try.func19, Try.ntmps19
  go_wp2_with (refine wpList_load_row rfl _ _ rfl w.heap.size (by rfl) _ _ _ _ P1 Try.underlying38 rfl (by kernel_rfl) ?_)
  refine Calls.mono KM.out ?_
  rintro e W2 ⟨rfl, bb⟩
  have P2 := P1.kept bb
  have b2 := bel_tr b1 bb
  clear KM bb P1 b1 hW1
  have d7 := P2.cell 7 (.int .i64 pr) rfl
  have d9 := P2.cell 9 (.bool false) rfl
  obtain ⟨W5, hW5⟩ : ∃ W, W2 = W := ⟨_, rfl⟩
  have P5 := P2
  have b5 := b2
  rw [hW5] at P5 b5 d7 d9 ⊢
  clear P2 b2
  obtain ⟨ea, HEA⟩ : ∃ a : Option Addr, Hid (none = a) := ⟨none, rfl⟩
  obtain ⟨ec, HEC⟩ : ∃ c : Nat, Hid (0 = c) := ⟨0, rfl⟩
  have rE : Row W5 ea E := by rw [HE.out]; exact row_nil _ _
  have nE : ea = none → ec = 0 := fun _ => HEC.out.symm
  obtain ⟨W6, hW6⟩ : ∃ W, W5.alloc (.cells #[.int .u8 96, .int .u8 0, .int .u8 0, .int .u8 0] 5) = W := ⟨_, rfl⟩
  have P6 := P5.al hW6
  have b6 := bel_al b5 hW6
  have rE6 : Row W6 ea E := by rw [← hW6]; exact rE.alloc _
  have r6 : Row W6 (some ⟨W5.heap.size, 0, none⟩) [96, 0, 0, 0] := by rw [← hW6]; exact row_at W5 5 [96, 0, 0, 0] W5.heap.size rfl (by simp) (M.Bytes.of rfl)
  have d14 := P6.cell 14 (.slice da dat.length dc) rfl
  go_wp2_with fail
  refine Calls.mono (KPu.out _ _ r6 (fun h => by cases h)) ?_
  rintro e W7 ⟨a7, c7, rfl, f7⟩
  have P7 := P6.kept f7.below
  have d4 := P7.cell 8 (.int .i64 ho) rfl
  have e7 := f7.below
  have O7 := f7.owns
  have y7 := f7.row.bytes
  clear KPu f7 r6 d14 hW6 P5 b5 rE d7 d9
  obtain ⟨W8, hW8⟩ : ∃ W, W7.alloc (.cells #[.int .u8 pr, .int .u8 ho] 5) = W := ⟨_, rfl⟩
  have e8 : Below W6.heap.size W6 W8 := bel_al e7 hW8
  have O8 : Owns W8 W6.heap.size (.slice a7 L1.length c7) L1 := by rw [← hW8]; exact O7.alloc _
  have r8 : Row W8 (some ⟨W7.heap.size, 0, none⟩) [pr, ho] := by
    rw [← hW8]
    exact row_at W7 5 [pr, ho] W7.heap.size rfl (by simp) (M.Bytes.of (by simp; omega))
  have z8 := e8.size
  go_wp2_with (at_builtin; refine wpList_app2 _ rfl _ _ rfl W6.heap.size _ L1 rfl O8 y7 (some ⟨W7.heap.size, 0, none⟩) 2 [pr, ho] rfl r8 (fun h => by cases h) L2 G2.out (by omega) z8 ?_)
  intro a9 c9 W9 O9 rm9 nl9 rw9 bb _
  have e9 : Below W6.heap.size W6 W9 := e8.trans bb
  have P9 := P6.kept e9
  clear bb e7 e8 O8 r8 O7 hW8 d4 P7 z8 G2
  have k1 := P9.cell 1 (.int .i64 sf) rfl
  have k2 := P9.cell 2 (.int .u64 sh) rfl
  have k3 := P9.cell 3 (.int .u64 sl) rfl
  go_wp2_with fail
  refine Calls.mono (KB1.out _) ?_
  rintro e W9b ⟨a9b, c9b, rfl, f9⟩
  have q9 : Below W6.heap.size W6 W9b := e9.trans (f9.below.mono e9.size)
  have O9b := O9.below f9.below
  have z9 := q9.size
  have y9 := rw9.bytes
  go_wp2_with (at_builtin; refine wpList_app2 _ rfl _ _ rfl W6.heap.size _ L2 rfl O9b y9 a9b c9b SB rfl f9.row f9.nil L3 G3.out (by omega) z9 ?_)
  intro a10 c10 W10 O10 rm10 nl10 rw10 bb _
  have e10 : Below W6.heap.size W6 W10 := q9.trans bb
  have P10 := P6.kept e10
  clear bb f9 q9 O9b z9 O9 y9 e9 P9 KB1 G3 k1 k2 k3 rm9 nl9 rw9
  have k4 := P10.cell 4 (.int .i64 df) rfl
  have k5 := P10.cell 5 (.int .u64 dh) rfl
  have k6 := P10.cell 6 (.int .u64 dl) rfl
  go_wp2_with fail
  refine Calls.mono (KB2.out _) ?_
  rintro e W10b ⟨a10b, c10b, rfl, f10⟩
  have q10 : Below W6.heap.size W6 W10b := e10.trans (f10.below.mono e10.size)
  have O10b := O10.below f10.below
  have z10 := q10.size
  have y10 := rw10.bytes
  go_wp2_with (at_builtin; refine wpList_app2 _ rfl _ _ rfl W6.heap.size _ L3 rfl O10b y10 a10b c10b DB rfl f10.row f10.nil L4 G4.out (by omega) z10 ?_)
  intro a11 c11 W11 O11 rm11 nl11 rw11 bb _
  have e11 : Below W6.heap.size W6 W11 := q10.trans bb
  have P11 := P6.kept e11
  clear bb f10 q10 O10b z10 O10 y10 e10 P10 KB2 G4 k4 k5 k6 rm10 nl10 rw10
  have rE11 := rE6.below e11
  have y11 := rw11.bytes
  have z11 := e11.size
  go_wp2_with (at_builtin; refine wpList_app2 _ rfl _ _ rfl W6.heap.size _ L4 rfl O11 y11 ea ec E (by rw [← HEA.out, ← HEC.out, HE0.out]; rfl) rE11 nE L5 G5.out (by omega) z11 ?_)
  intro a12 c12 W12 O12 rm12 nl12 rw12 bb _
  have e12 : Below W6.heap.size W6 W12 := e11.trans bb
  have P12 := P6.kept e12
  clear bb O11 y11 z11 e11 P11 rE11 G5 rm11 nl11 rw11
  have y12 := rw12.bytes
  have z12 := e12.size
  have b12 := bel_tr b6 e12
  have rd := hdr.below b12
  have k14 := P12.cell 14 (.slice da dat.length dc) rfl
  go_wp2_with (at_builtin; refine wpList_app2 _ rfl _ _ rfl W6.heap.size _ L5 rfl O12 y12 da dc dat rfl rd hdn R G6.out (by omega) z12 ?_)
  intro a13 c13 W13 O13 rm13 nl13 rw13 bb _
  have e13 : Below W6.heap.size W6 W13 := e12.trans bb
  have b13 := bel_tr b6 e13
  clear bb O12 y12 z12 e12 P12 rd G6 rm12 nl12 rw12 k14
  go_wp2_with fail
  go_ret2
  exact ⟨a13, c13, rfl, owns_le b6.size O13, rm13, nl13, rw13, b13⟩
end Go.Proofs.Ytmnkdogdligckaa
