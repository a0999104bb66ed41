/- Texts joined: Ip6Bc -/
import Derived.Test.YtbghilihccaaaaaTwz46
namespace Go.Proofs.Ytbghilihccaaaaa
open Go.RowKit
set_option linter.unusedVariables false
set_option linter.unusedSimpArgs false
set_option maxRecDepth 100000 in
set_option maxHeartbeats 4000000 in
theorem build6_yt (f sf sh sl df dh dl pr ho : Int) (id of : Int) (mo : Bool) (xa : Option Addr) (xc : Nat) (X : List Int) (da : Option Addr) (dat : List Int) (dc : Nat) (w : World) (hx : RowI w xa X) (hdr : Row w da dat) (hdn : da = none → dc = 0) (hsrc : Ad.ok ⟨sf, sh, sl⟩) (hdst : Ad.ok ⟨df, dh, dl⟩) (hid : 0 ≤ id ∧ id ≤ 4294967295) (hof : -9223372036854775808 ≤ of ∧ of ≤ 9223372036854775807) (hn : (rn f sf df pr ho && rx true X && decide (dat.length ≤ 65000)) = true) (hp : rp of mo dat.length = true) :
    Calls Try.prog 41 #[.agg #[.int .i64 f, .int .i64 sf, .int .u64 sh, .int .u64 sl, .int .i64 df, .int .u64 dh, .int .u64 dl, .int .i64 pr, .int .i64 ho, .bool true, .int .u32 id, .int .i64 of, .bool mo, .slice xa X.length xc, .slice da dat.length dc]] w fun e w' => ∃ a' c', e = .returned (.tuple #[.slice a' (made6 44 ho (Ad.bytes ⟨sf, sh, sl⟩) (Ad.bytes ⟨df, dh, dl⟩) (fh pr of mo id) dat).length c', .int .i64 0]) ∧ Fresh w w' a' c' (made6 44 ho (Ad.bytes ⟨sf, sh, sl⟩) (Ad.bytes ⟨df, dh, dl⟩) (fh pr of mo id) dat) := by
  obtain ⟨W1, hW1⟩ : ∃ W1, w.alloc (.cells #[.int .i64 f, .int .i64 sf, .int .u64 sh, .int .u64 sl, .int .i64 df, .int .u64 dh, .int .u64 dl, .int .i64 pr, .int .i64 ho, .bool true, .int .u32 id, .int .i64 of, .bool mo, .slice xa X.length xc, .slice da dat.length dc] 42) = W1 := ⟨_, rfl⟩
  have b1 : Below w.heap.size w W1 := by rw [← hW1]; exact (Below.refl _ _).alloc (Nat.le_refl _) _
  have P1 : Blk W1 w.heap.size 42 #[.int .i64 f, .int .i64 sf, .int .u64 sh, .int .u64 sl, .int .i64 df, .int .u64 dh, .int .u64 dl, .int .i64 pr, .int .i64 ho, .bool true, .int .u32 id, .int .i64 of, .bool mo, .slice xa X.length xc, .slice da dat.length dc] := by rw [← hW1]; exact blk_new _ _ _
  have hdl := hdr.small
  have KH : Hid _ := rightHead6_any f sf sh sl df dh dl pr ho true id of mo xa xc X da dat.length dc W1 (hx.below b1) hdl
  rw [hn] at KH
  have hn' : 0 ≤ pr ∧ pr ≤ 255 ∧ 1 ≤ ho ∧ ho ≤ 255 ∧ dat.length ≤ 65000 := by
    unfold rn at hn
    simp only [Bool.and_eq_true, decide_eq_true_eq] at hn
    obtain ⟨⟨⟨h1, h2, h3, h4, h5, h6, h7⟩, _⟩, h8⟩ := hn
    exact ⟨h4, h5, h6, h7, h8⟩
  obtain ⟨p0, p1, h0, h1, hd65⟩ := hn'
  obtain ⟨SB, hSB⟩ : ∃ SB, Ad.bytes ⟨sf, sh, sl⟩ = SB := ⟨_, rfl⟩
  obtain ⟨DB, hDB⟩ : ∃ DB, Ad.bytes ⟨df, dh, dl⟩ = DB := ⟨_, rfl⟩
  have KB1 : Hid (∀ W, Calls Try.prog 54 #[.agg #[.int .i64 sf, .int .u64 sh, .int .u64 sl]] W fun e w' => ∃ a c, e = .returned (.slice a SB.length c) ∧ Fresh W w' a c SB) := by
    intro W
    have := bytes_any sf sh sl W hsrc
    rw [hSB] at this
    exact this
  have KB2 : Hid (∀ W, Calls Try.prog 54 #[.agg #[.int .i64 df, .int .u64 dh, .int .u64 dl]] W fun e w' => ∃ a c, e = .returned (.slice a DB.length c) ∧ Fresh W w' a c DB) := by
    intro W
    have := bytes_any df dh dl W hdst
    rw [hDB] at this
    exact this
  have lSB : SB.length ≤ 16 := by rw [← hSB]; exact bytes_le _
  have lDB : DB.length ≤ 16 := by rw [← hDB]; exact bytes_le _
  rw [hSB, hDB]
  have epr : IntKind.u8.wrap pr = pr := by rw [IntKind.wrap_u8]; omega
  have eho : IntKind.u8.wrap ho = ho := by rw [IntKind.wrap_u8]; omega
  clear hSB hDB hx hn hsrc hdst
  have hq : 0 ≤ of ∧ of % 8 = 0 ∧ of ≤ 65535 := by
    have hp' := hp
    unfold rp at hp'
    simp at hp'
    omega
  obtain ⟨E, hE⟩ : ∃ E, fh pr of mo id = E := ⟨_, rfl⟩
  have lE : E.length ≤ 8 := by rw [← hE]; simp [fh, put32, put16]
  have KF : Hid (∀ W, Calls Try.prog 67 #[.agg #[.int .i64 f, .int .i64 sf, .int .u64 sh, .int .u64 sl, .int .i64 df, .int .u64 dh, .int .u64 dl, .int .i64 pr, .int .i64 ho, .bool true, .int .u32 id, .int .i64 of, .bool mo, .slice xa X.length xc, .slice da dat.length dc]] W fun e w' => ∃ a' c', e = .returned (.slice a' E.length c') ∧ Fresh W w' a' c' E) := fun W => by
    have := fragmentHead_any f sf sh sl df dh dl pr ho true id of mo xa X.length xc da dat.length dc W hq.1 hq.2.2 hq.2.1 p0 p1 hid
    rw [hE] at this
    exact this
  have KPl : Hid (∀ W, Calls Try.prog 66 #[.agg #[.int .i64 f, .int .i64 sf, .int .u64 sh, .int .u64 sl, .int .i64 df, .int .u64 dh, .int .u64 dl, .int .i64 pr, .int .i64 ho, .bool true, .int .u32 id, .int .i64 of, .bool mo, .slice xa X.length xc, .slice da dat.length dc]] W fun e w' => e = .returned (.bool true) ∧ Below W.heap.size W w') := fun W => by
    have := rightPlace6_any f sf sh sl df dh dl pr ho true id of mo xa X.length xc da dat.length dc W hdl hof
    rw [hp] at this
    exact this
  rw [hE]
  clear hp hq hE
  obtain ⟨L1, hL1⟩ : ∃ L, put16 [96, 0, 0, 0] ((E.length : Int) + dat.length) = L := ⟨_, rfl⟩
  obtain ⟨L2, hL2⟩ : ∃ L, L1 ++ [44, ho] = L := ⟨_, rfl⟩
  have l1 : L1.length = 6 := by rw [← hL1]; simp [put16]
  have l2 : L2.length = 8 := by rw [← hL2, List.length_append, l1]; rfl
  obtain ⟨R, hR⟩ : ∃ R, [L2, SB, DB, E, dat].flatten = R := ⟨_, rfl⟩
  have eM : made6 44 ho SB DB E dat = R := by unfold made6; rw [hL1, hL2, hR]
  rw [eM]
  have hRl : R.length ≤ 1048576 := by
    rw [← hR]
    simp only [List.flatten_cons, List.flatten_nil, List.append_nil, List.length_append, List.length_nil]
    omega
  have HR : Hid ([L2, SB, DB, E, dat].flatten = R) := hR
  have HL2 : Hid (L1 ++ [44, ho] = L2) := hL2
  have l1' : L1.length ≤ 6 := by omega
  have l2' : L2.length ≤ 8 := by omega
  have KPu : Hid (∀ W a, Row W a [96, 0, 0, 0] → a ≠ none → Calls Try.prog 53 #[.slice a 4 4, .int .i64 ((E.length : Int) + dat.length)] W fun e w' => ∃ a' c', e = .returned (.slice a' L1.length c') ∧ Fresh W w' a' c' L1) := fun W a hr hne => by
    have := put16_any a 4 [96, 0, 0, 0] ((E.length : Int) + dat.length) W hr (fun h => absurd h hne) (by simp)
    rw [hL1] at this
    exact this
  have wEd : IntKind.i64.wrap ((E.length : Int) + dat.length) = (E.length : Int) + dat.length := wraps_i64 _ (by omega) (by omega)
  clear hL1 hL2 hR eM l1 l2
  go_enter Try.func41, Try.ntmps41
  go_wp2_with (refine wpList_load_row rfl _ _ rfl w.heap.size (by rfl) _ _ _ _ P1 Try.underlying42 rfl (by kernel_rfl) ?_)
  refine Calls.mono KH.out ?_
  rintro e W2 ⟨rfl, bb⟩
  have P2 := P1.kept bb
  have b2 : Below w.heap.size w W2 := b1.trans (bb.mono b1.size)
  have d9 := P2.cell 9 (.bool true) rfl
  have d7 := P2.cell 7 (.int .i64 pr) rfl
  clear KH bb P1 b1 hW1
  go_wp2_with (refine wpList_load_blk_w (by kernel_rfl) _ _ rfl w.heap.size (by rfl) _ P2 Try.underlying42 (by kernel_rfl) ?_)
  refine Calls.mono (KPl.out _) ?_
  rintro e W3 ⟨rfl, bb⟩
  have P3 := P2.kept bb
  have b3 : Below w.heap.size w W3 := b2.trans (bb.mono b2.size)
  clear KPl bb P2 b2 d9 d7
  have d9 := P3.cell 9 (.bool true) rfl
  have d7 := P3.cell 7 (.int .i64 pr) rfl
  obtain ⟨W4, hW4⟩ : ∃ W, W3.alloc (.cells #[] 5) = W := ⟨_, rfl⟩
  have P4 : Blk W4 w.heap.size 42 #[.int .i64 f, .int .i64 sf, .int .u64 sh, .int .u64 sl, .int .i64 df, .int .u64 dh, .int .u64 dl, .int .i64 pr, .int .i64 ho, .bool true, .int .u32 id, .int .i64 of, .bool mo, .slice xa X.length xc, .slice da dat.length dc] := by rw [← hW4]; exact P3.alloc _
  have b4 : Below w.heap.size w W4 := by rw [← hW4]; exact b3.alloc b3.size _
  have e9 := P4.cell 9 (.bool true) rfl
  go_wp2_with (refine wpList_load_row rfl _ _ rfl w.heap.size (by rfl) _ _ _ _ P4 Try.underlying42 rfl (by kernel_rfl) ?_)
  refine Calls.mono (KF.out _) ?_
  rintro e W5 ⟨ea, ec, rfl, fE⟩
  have P5 := P4.kept fE.below
  have b5 : Below w.heap.size w W5 := b4.trans (fE.below.mono b4.size)
  have rE := fE.row
  have nE := fE.nil
  clear KF fE P4 b4 P3 b3 d9 d7 e9 hW4
  obtain ⟨W6, hW6⟩ : ∃ W, W5.alloc (.cells #[.int .u8 96, .int .u8 0, .int .u8 0, .int .u8 0] 5) = W := ⟨_, rfl⟩
  have P6 : Blk W6 w.heap.size 42 #[.int .i64 f, .int .i64 sf, .int .u64 sh, .int .u64 sl, .int .i64 df, .int .u64 dh, .int .u64 dl, .int .i64 pr, .int .i64 ho, .bool true, .int .u32 id, .int .i64 of, .bool mo, .slice xa X.length xc, .slice da dat.length dc] := by rw [← hW6]; exact P5.alloc _
  have b6 : Below w.heap.size w W6 := by rw [← hW6]; exact b5.alloc b5.size _
  have rE6 : Row W6 ea E := by rw [← hW6]; exact rE.alloc _
  have r6 : Row W6 (some ⟨W5.heap.size, 0, none⟩) [96, 0, 0, 0] := by rw [← hW6]; exact row_at W5 5 [96, 0, 0, 0] W5.heap.size rfl (by simp) (M.Bytes.of rfl)
  have d14 := P6.cell 14 (.slice da dat.length dc) rfl
  go_wp2_with fail
  refine Calls.mono (KPu.out _ _ r6 (fun h => by cases h)) ?_
  rintro e W7 ⟨a7, c7, rfl, f7⟩
  have P7 := P6.kept f7.below
  have d4 := P7.cell 8 (.int .i64 ho) rfl
  have e7 := f7.below
  have O7 := f7.owns
  have y7 := f7.row.bytes
  clear KPu f7 r6 d14 hW6 P5 b5 rE
  obtain ⟨W8, hW8⟩ : ∃ W, W7.alloc (.cells #[.int .u8 44, .int .u8 ho] 5) = W := ⟨_, rfl⟩
  have e8 : Below W6.heap.size W6 W8 := bel_al e7 hW8
  have O8 : Owns W8 W6.heap.size (.slice a7 L1.length c7) L1 := by rw [← hW8]; exact O7.alloc _
  have r8 : Row W8 (some ⟨W7.heap.size, 0, none⟩) [44, ho] := by
    rw [← hW8]
    exact row_at W7 5 [44, ho] W7.heap.size rfl (by simp) (M.Bytes.of (by simp; omega))
  have z8 := e8.size
  go_wp2_with (at_builtin; refine wpList_app2 _ rfl _ _ rfl W6.heap.size _ L1 rfl O8 y7 (some ⟨W7.heap.size, 0, none⟩) 2 [44, ho] rfl r8 (fun h => by cases h) L2 HL2.out (by omega) z8 ?_)
  intro a9 c9 W9 O9 rm9 nl9 rw9 bb _
  have e9 : Below W6.heap.size W6 W9 := e8.trans bb
  have P9 := P6.kept e9
  have b9 := bel_tr b6 e9
  have rE9 := rE6.below e9
  clear bb e7 e8 e9 O8 r8 O7 hW8 d4 O9 P6 b6 rE6 P7 z8 HL2
  go_wp2_with fail
  refine wp_region_noPanic ?_
  refine wp_region_held_drew (S := fun w' => Blk w' w.heap.size 42 #[.int .i64 f, .int .i64 sf, .int .u64 sh, .int .u64 sl, .int .i64 df, .int .u64 dh, .int .u64 dl, .int .i64 pr, .int .i64 ho, .bool true, .int .u32 id, .int .i64 of, .bool mo, .slice xa X.length xc, .slice da dat.length dc]) (by kernel_rfl) (by exact P9.drew) (fun hHeld => ?_)
  refine wpAnyH_take (i := 0) (oi := { dst := some 42, op := Op.move (.tmp 6), type := 40, pos := "ip6.go:104", after := #[], guard := none }) (v := (.slice a9 L2.length c9)) rfl (by kernel_rfl) (by kernel_rfl) (by kernel_rfl) (fun _ _ _ h => h) (Or.inl ⟨by rfl, ?_⟩) hHeld ?_
  · intro w9 hSw
    try dsimp only at hSw
    go_simp
  try simp only [Act.put, List.setIfInBounds_toArray, List.set_cons_zero, List.set_cons_succ]
  refine wpAnyH_take (i := 1) (oi := { dst := some 43, op := Op.fieldAddr 42 (.tmp 1) 1, type := 0, pos := "ip6.go:104", after := #[], guard := none }) (v := (.pointer (some ⟨w.heap.size, 1, none⟩))) rfl (by kernel_rfl) (by kernel_rfl) (by kernel_rfl) (fun _ _ _ h => h) (Or.inl ⟨by rfl, ?_⟩) hHeld ?_
  · intro w9 hSw
    try dsimp only at hSw
    go_simp
  try simp only [Act.put, List.setIfInBounds_toArray, List.set_cons_zero, List.set_cons_succ]
  refine wpAnyH_take (i := 2) (oi := { dst := some 44, op := Op.load 37 (.tmp 43), type := 37, pos := "ip6.go:104", after := #[{ on := 1, ground := Ground.data }], guard := none }) (v := (.agg #[.int .i64 sf, .int .u64 sh, .int .u64 sl])) rfl (by kernel_rfl) (by kernel_rfl) (by kernel_rfl) (fun _ _ _ h => h) (yieldsIf_sub rfl _ _ rfl w.heap.size 1 42 (by rfl) _ _ (fun _ hSw => hSw) (by rfl) Try.underlying37 (by kernel_rfl)) hHeld ?_
  try simp only [Act.put, List.setIfInBounds_toArray, List.set_cons_zero, List.set_cons_succ]
  refine wpAnyH_take (i := 4) (oi := { dst := some 46, op := Op.fieldAddr 42 (.tmp 1) 2, type := 0, pos := "ip6.go:104", after := #[], guard := none }) (v := (.pointer (some ⟨w.heap.size, 4, none⟩))) rfl (by kernel_rfl) (by kernel_rfl) (by kernel_rfl) (fun _ _ _ h => h) (Or.inl ⟨by rfl, ?_⟩) hHeld ?_
  · intro w9 hSw
    try dsimp only at hSw
    go_simp
  try simp only [Act.put, List.setIfInBounds_toArray, List.set_cons_zero, List.set_cons_succ]
  refine wpAnyH_take (i := 5) (oi := { dst := some 47, op := Op.load 37 (.tmp 46), type := 37, pos := "ip6.go:104", after := #[{ on := 4, ground := Ground.data }], guard := none }) (v := (.agg #[.int .i64 df, .int .u64 dh, .int .u64 dl])) rfl (by kernel_rfl) (by kernel_rfl) (by kernel_rfl) (fun _ _ _ h => h) (yieldsIf_sub rfl _ _ rfl w.heap.size 4 42 (by rfl) _ _ (fun _ hSw => hSw) (by rfl) Try.underlying37 (by kernel_rfl)) hHeld ?_
  try simp only [Act.put, List.setIfInBounds_toArray, List.set_cons_zero, List.set_cons_succ]
  refine wpAnyH_take (i := 7) (oi := { dst := some 49, op := Op.move (.tmp 5), type := 40, pos := "ip6.go:104", after := #[], guard := none }) (v := (.slice ea E.length ec)) rfl (by kernel_rfl) (by kernel_rfl) (by kernel_rfl) (fun _ _ _ h => h) (Or.inl ⟨by rfl, ?_⟩) hHeld ?_
  · intro w9 hSw
    try dsimp only at hSw
    go_simp
  try simp only [Act.put, List.setIfInBounds_toArray, List.set_cons_zero, List.set_cons_succ]
  refine wpAnyH_take (i := 8) (oi := { dst := some 50, op := Op.fieldAddr 42 (.tmp 1) 10, type := 0, pos := "ip6.go:104", after := #[], guard := none }) (v := (.pointer (some ⟨w.heap.size, 14, none⟩))) rfl (by kernel_rfl) (by kernel_rfl) (by kernel_rfl) (fun _ _ _ h => h) (Or.inl ⟨by rfl, ?_⟩) hHeld ?_
  · intro w9 hSw
    try dsimp only at hSw
    go_simp
  try simp only [Act.put, List.setIfInBounds_toArray, List.set_cons_zero, List.set_cons_succ]
  refine wpAnyH_take (i := 9) (oi := { dst := some 51, op := Op.load 40 (.tmp 50), type := 40, pos := "ip6.go:104", after := #[{ on := 8, ground := Ground.data }], guard := none }) (v := (.slice da dat.length dc)) rfl (by kernel_rfl) (by kernel_rfl) (by kernel_rfl) (fun _ _ _ h => h) (Or.inl ⟨by rfl, ?_⟩) hHeld ?_
  · intro w9 hSw
    have hSw := Blk.cell hSw 14 (.slice da dat.length dc) rfl
    go_simp
  try simp only [Act.put, List.setIfInBounds_toArray, List.set_cons_zero, List.set_cons_succ]
  refine wpAnyH_ready (rs := [3]) (by kernel_rfl) (by simp) ?_
  refine AllReadyH.cons (o := { dst := some 45, op := Op.call { callee := Callee.value (.func 54), args := #[.tmp 44], argTypes := #[37] }, type := 40, pos := "ip6.go:104", after := #[{ on := 2, ground := Ground.data }], guard := none }) rfl (fun K hK => ?_) AllReadyH.nil
  go_simp
  refine Calls.mono (KB1.out _) ?_
  rintro e W10 ⟨a10, c10, rfl, f10⟩
  have P10 := P9.drew.kept f10.below
  have b10 := bel_tr b9.drew f10.below
  have rE10 := (rE9.below (Below.refl _ _).drew).below f10.below
  have rh10 := (rw9.below (Below.refl _ _).drew).below f10.below
  have r10 := f10.row
  have n10 := f10.nil
  refine hK.out _ _ ?_ (fun hHeld => ?_)
  · exact P10
  clear hK K
  try simp only [Act.put, List.setIfInBounds_toArray, List.set_cons_zero, List.set_cons_succ]
  refine wpAnyH_ready (rs := [6]) (by kernel_rfl) (by simp) ?_
  refine AllReadyH.cons (o := { dst := some 48, op := Op.call { callee := Callee.value (.func 54), args := #[.tmp 47], argTypes := #[37] }, type := 40, pos := "ip6.go:104", after := #[{ on := 5, ground := Ground.data }, { on := 3, ground := Ground.chain }], guard := none }) rfl (fun K hK => ?_) AllReadyH.nil
  go_simp
  refine Calls.mono (KB2.out _) ?_
  rintro e W11 ⟨a11, c11, rfl, f11⟩
  have P11 := P10.kept f11.below
  have b11 := bel_tr b10 f11.below
  have rE11 := rE10.below f11.below
  have rh11 := rh10.below f11.below
  have rs11 := r10.below f11.below
  have r11 := f11.row
  have n11 := f11.nil
  refine hK.out _ _ ?_ (fun hHeld => ?_)
  · exact P11
  clear hK K
  try simp only [Act.put, List.setIfInBounds_toArray, List.set_cons_zero, List.set_cons_succ]
  have rd11 := hdr.below b11
  have KC : Hid _ := concat_any (some ⟨W11.heap.size, 0, none⟩) 5 [L2, SB, DB, E, dat] (W11.alloc (.cells #[.slice a9 L2.length c9, .slice a10 SB.length c10, .slice a11 DB.length c11, .slice ea E.length ec, .slice da dat.length dc] 40)) (rowss_five W11 40 W11.heap.size rfl a9 a10 a11 ea da c9 c10 c11 ec dc L2 SB DB E dat rh11 rs11 r11 rE11 rd11) (five_nil W11 40 a9 a10 a11 ea da c9 c10 c11 ec dc L2 SB DB E dat nl9 n10 n11 nE hdn) R HR.out hRl
  refine wpAnyH_ready (rs := [10]) (by kernel_rfl) (by simp) ?_
  refine AllReadyH.cons (o := { dst := some 52, op := Op.buildSlice 122 5 #[(0, .tmp 42), (1, .tmp 45), (2, .tmp 48), (3, .tmp 49), (4, .tmp 51)], type := 122, pos := "ip6.go:104", after := #[{ on := 0, ground := Ground.data }, { on := 3, ground := Ground.data }, { on := 6, ground := Ground.data }, { on := 7, ground := Ground.data }, { on := 9, ground := Ground.data }], guard := none }) rfl (fun K hK => ?_) AllReadyH.nil
  go_simp
  refine hK.out _ _ (by exact P11.alloc _) (fun hHeld => ?_)
  clear hK K
  try simp only [Act.put, List.setIfInBounds_toArray, List.set_cons_zero, List.set_cons_succ]
  refine wpAnyH_ready (rs := [11]) (by kernel_rfl) (by simp) ?_
  refine AllReadyH.cons (o := { dst := some 53, op := Op.call { callee := Callee.value (.func 56), args := #[.tmp 52], argTypes := #[122] }, type := 40, pos := "ip6.go:104", after := #[{ on := 10, ground := Ground.data }, { on := 6, ground := Ground.chain }], guard := none }) rfl (fun K hK => ?_) AllReadyH.nil
  go_simp
  refine Calls.mono KC.out ?_
  rintro e W12 ⟨a12, c12, rfl, f12⟩
  have b12 := bel_tr (b11.alloc b11.size _) f12.below
  refine hK.out _ _ ?_ (fun hHeld => ?_)
  · exact (P11.alloc _).kept f12.below
  clear hK K
  try simp only [Act.put, List.setIfInBounds_toArray, List.set_cons_zero, List.set_cons_succ]
  refine wpAnyH_take (i := 12) (oi := { dst := some 2, op := Op.assign (.tmp 53), type := 40, pos := "ip6.go:104", after := #[{ on := 11, ground := Ground.data }, { on := 11, ground := Ground.chain }, { on := 0, ground := Ground.phase }, { on := 1, ground := Ground.phase }, { on := 2, ground := Ground.phase }, { on := 3, ground := Ground.phase }, { on := 4, ground := Ground.phase }, { on := 5, ground := Ground.phase }, { on := 6, ground := Ground.phase }, { on := 7, ground := Ground.phase }, { on := 8, ground := Ground.phase }, { on := 9, ground := Ground.phase }, { on := 10, ground := Ground.phase }, { on := 11, ground := Ground.phase }], guard := none }) (v := (.slice a12 R.length c12)) rfl (by kernel_rfl) (by kernel_rfl) (by kernel_rfl) (fun _ _ _ h => h) (Or.inl ⟨by rfl, ?_⟩) hHeld ?_
  · intro w9 hSw
    try dsimp only at hSw
    go_simp
  try simp only [Act.put, List.setIfInBounds_toArray, List.set_cons_zero, List.set_cons_succ]
  refine wpAnyH_take (i := 13) (oi := { dst := some 3, op := Op.assign (.const (.int .i64 0)), type := 26, pos := "ip6.go:104", after := #[{ on := 12, ground := Ground.chain }, { on := 0, ground := Ground.phase }, { on := 1, ground := Ground.phase }, { on := 2, ground := Ground.phase }, { on := 3, ground := Ground.phase }, { on := 4, ground := Ground.phase }, { on := 5, ground := Ground.phase }, { on := 6, ground := Ground.phase }, { on := 7, ground := Ground.phase }, { on := 8, ground := Ground.phase }, { on := 9, ground := Ground.phase }, { on := 10, ground := Ground.phase }, { on := 11, ground := Ground.phase }, { on := 12, ground := Ground.phase }], guard := none }) (v := (.int .i64 0)) rfl (by kernel_rfl) (by kernel_rfl) (by kernel_rfl) (fun _ _ _ h => h) (Or.inl ⟨by rfl, ?_⟩) hHeld ?_
  · intro w9 hSw
    try dsimp only at hSw
    go_simp
  try simp only [Act.put, List.setIfInBounds_toArray, List.set_cons_zero, List.set_cons_succ]
  refine wpAnyH_done (by kernel_rfl) ?_ _
  refine NoPanic.normal ?_
  go_wp2_with fail
  go_ret2
  exact ⟨a12, c12, rfl, owns_le (Nat.le_trans b11.size (by simp)) f12.owns, f12.room, f12.nil, f12.row, b12⟩
end Go.Proofs.Ytbghilihccaaaaa
