/- Texts joined: Ip6By -/
import Derived.Test.YtmnkdogdligckaaIp6zb47
namespace Go.Proofs.Ytmnkdogdligckaa
abbrev ip6zb48o0 : Oper := { dst := some 2, op := Op.assign (.tmp 56), type := 4, pos := "law.go:62", after := #[{ on := 10, ground := Ground.data }, { on := 9, ground := Ground.chain }, { on := 0, ground := Ground.phase }, { on := 1, ground := Ground.phase }, { on := 2, ground := Ground.phase }, { on := 3, ground := Ground.phase }, { on := 4, ground := Ground.phase }, { on := 5, ground := Ground.phase }, { on := 6, ground := Ground.phase }, { on := 7, ground := Ground.phase }, { on := 8, ground := Ground.phase }, { on := 9, ground := Ground.phase }, { on := 10, ground := Ground.phase }], guard := none }
abbrev ip6zb48o1 : Oper := { dst := some 52, op := Op.call { callee := Callee.value (.func 17), args := #[.tmp 49, .tmp 51], argTypes := #[38, 38] }, type := 4, pos := "law.go:62", after := #[{ on := 3, ground := Ground.data }, { on := 5, ground := Ground.data }, { on := 5, ground := Ground.chain }, { on := 2, ground := Ground.guard }], guard := some (2, true) }
abbrev ip6zb48o2 : Oper := { dst := some 51, op := Op.call { callee := Callee.value (.func 22), args := #[.tmp 50], argTypes := #[38] }, type := 38, pos := "law.go:62", after := #[{ on := 4, ground := Ground.data }, { on := 2, ground := Ground.chain }, { on := 2, ground := Ground.guard }], guard := some (2, true) }
abbrev ip6zb48o3 : Oper := { dst := some 55, op := Op.call { callee := Callee.value (.func 14), args := #[], argTypes := #[] }, type := 4, pos := "law.go:62", after := #[{ on := 8, ground := Ground.chain }, { on := 8, ground := Ground.guard }], guard := some (8, true) }
abbrev ip6zb48o4 : Oper := { dst := some 53, op := Op.pick (.tmp 48) (.tmp 52) (.const (.bool false)), type := 4, pos := "law.go:62", after := #[{ on := 2, ground := Ground.data }, { on := 6, ground := Ground.data }], guard := none }
abbrev ip6zb48o5 : Oper := { dst := some 56, op := Op.pick (.tmp 54) (.tmp 55) (.const (.bool false)), type := 4, pos := "law.go:62", after := #[{ on := 8, ground := Ground.data }, { on := 9, ground := Ground.data }], guard := none }
abbrev ip6zb48o6 : Oper := { dst := some 47, op := Op.binOp BinOp.eql 24 (.tmp 46) (.const (.int .i64 0)) 24, type := 4, pos := "law.go:62", after := #[{ on := 0, ground := Ground.data }], guard := none }
abbrev ip6zb48o7 : Oper := { dst := some 54, op := Op.move (.tmp 53), type := 4, pos := "law.go:62", after := #[{ on := 7, ground := Ground.data }, { on := 6, ground := Ground.chain }], guard := none }
abbrev ip6zb48o8 : Oper := { dst := some 49, op := Op.load 38 (.tmp 5), type := 38, pos := "law.go:62", after := #[{ on := 2, ground := Ground.guard }], guard := some (2, true) }
abbrev ip6zb48o9 : Oper := { dst := some 50, op := Op.load 38 (.tmp 1), type := 38, pos := "law.go:62", after := #[{ on := 2, ground := Ground.guard }], guard := some (2, true) }
abbrev ip6zb48o10 : Oper := { dst := some 48, op := Op.move (.tmp 47), type := 4, pos := "law.go:62", after := #[{ on := 1, ground := Ground.data }], guard := none }
abbrev ip6zb48o11 : Oper := { dst := some 46, op := Op.move (.tmp 6), type := 24, pos := "law.go:62", after := #[], guard := none }
end Go.Proofs.Ytmnkdogdligckaa
namespace Go.Proofs.Ytmnkdogdligckaa
open Go.RowKit
set_option linter.unusedVariables false
set_option linter.unusedSimpArgs false
set_option maxRecDepth 100000 in
set_option maxHeartbeats 4000000 in
theorem ip6Back_f (f sf sh sl df dh dl pr ho : Int) (id of : Int) (mo : Bool) (xa : Option Addr) (xc : Nat) (X : List Int) (da : Option Addr) (dat : List Int) (dc : Nat) (w : World) (hx : RowI w xa X) (hdr : Row w da dat) (hdc : dat.length ≤ dc) (hdm : dc ≤ 140737488351232) (hdn : da = none → dc = 0) (hsrc : Ad.ok ⟨sf, sh, sl⟩) (hdst : Ad.ok ⟨df, dh, dl⟩) (hid : 0 ≤ id ∧ id ≤ 4294967295) (hof : -9223372036854775808 ≤ of ∧ of ≤ 9223372036854775807) (hm : may6 f sf df pr ho false X of mo dat.length = true) (hext : isExt pr = false) :
    Calls Try.prog 6 #[.agg #[.int .i64 f, .int .i64 sf, .int .u64 sh, .int .u64 sl, .int .i64 df, .int .u64 dh, .int .u64 dl, .int .i64 pr, .int .i64 ho, .bool false, .int .u32 id, .int .i64 of, .bool mo, .slice xa X.length xc, .slice da dat.length dc]] w fun e w' => e = .returned (.bool true) ∧ Below w.heap.size w w' := by
  obtain ⟨L, hL⟩ : ∃ L, build6 f ⟨sf, sh, sl⟩ ⟨df, dh, dl⟩ pr ho false id of mo X dat = L := ⟨_, rfl⟩
  have KA : Hid (∀ W, RowI W xa X → Row W da dat → Calls Try.prog 18 #[.agg #[.int .i64 f, .int .i64 sf, .int .u64 sh, .int .u64 sl, .int .i64 df, .int .u64 dh, .int .u64 dl, .int .i64 pr, .int .i64 ho, .bool false, .int .u32 id, .int .i64 of, .bool mo, .slice xa X.length xc, .slice da dat.length dc]] W fun e w' => ∃ a c, e = .returned (.tuple #[.slice a L.length c, .int .i64 0]) ∧ Fresh W w' a c L) := fun W h1 h2 => by
    have := build6_any f sf sh sl df dh dl pr ho false id of mo xa xc X da dat dc W h1 h2 hdn hsrc hdst hid hof
    rw [hm, hL] at this
    exact this
  have lL := build6_len f ⟨sf, sh, sl⟩ ⟨df, dh, dl⟩ pr ho false id of mo X dat hm
  rw [hL] at lL
  obtain ⟨hQE, hQ, hEX', hX0⟩ := back6_f (id := id) hsrc hdst hm hext
  rw [hL] at hQE hQ hEX'
  obtain ⟨EX, hEX⟩ : ∃ X, exts6 L = X := ⟨_, rfl⟩
  have HEX : Hid (EX = []) := hEX.symm.trans hEX'
  have KQ : Hid (∀ W a c, Row W a L → (a = none → c = 0) → L.length ≤ c → c ≤ 9223372036854775807 → Calls Try.prog 15 #[.slice a L.length c] W fun e w' => ∃ a3 c3 ya yc, e = .returned (.tuple #[.agg #[.int .i64 f, .int .i64 sf, .int .u64 sh, .int .u64 sl, .int .i64 df, .int .u64 dh, .int .u64 dl, .int .i64 pr, .int .i64 ho, .bool false, .int .u32 0, .int .i64 0, .bool false, .slice ya EX.length yc, .slice a3 dat.length c3], .int .i64 0]) ∧ Fresh W w' a3 c3 dat ∧ OwnsI w' W.heap.size (.slice ya EX.length yc) EX ∧ EX.length ≤ 8) := fun W a c h1 h2 h3 h4 => by
    have := parse6_any a c L W h1 h2 (by omega) h3 h4
    unfold Got6 at this
    rw [hQE, hQ, hEX] at this
    exact this
  have KI : Hid (∀ W, Calls Try.prog 20 #[.int .i64 pr] W fun e w' => e = .returned (.bool false) ∧ w' = W) := fun W => by
    have := isExt_any pr W
    rw [hext] at this
    exact this
  have KBr : Hid (∀ W, Calls Try.prog 22 #[.agg #[.int .i64 f, .int .i64 sf, .int .u64 sh, .int .u64 sl, .int .i64 df, .int .u64 dh, .int .u64 dl, .int .i64 pr, .int .i64 ho, .bool false, .int .u32 id, .int .i64 of, .bool mo, .slice xa X.length xc, .slice da dat.length dc]] W fun e w' => e = .returned (.agg #[.int .i64 f, .int .i64 sf, .int .u64 sh, .int .u64 sl, .int .i64 df, .int .u64 dh, .int .u64 dl, .int .i64 pr, .int .i64 ho, .bool false, .int .u32 0, .int .i64 0, .bool false, .slice xa X.length xc, .slice da dat.length dc]) ∧ Below W.heap.size W w') := fun W => bare6_f f sf sh sl df dh dl pr ho id of mo xa X.length xc da dat.length dc W
  have HX0 : Hid (X = []) := List.eq_nil_of_length_eq_zero hX0
  have KL : Hid _ := alive6_any
  obtain ⟨W1, hW1⟩ : ∃ W1, w.alloc (.cells #[.int .i64 f, .int .i64 sf, .int .u64 sh, .int .u64 sl, .int .i64 df, .int .u64 dh, .int .u64 dl, .int .i64 pr, .int .i64 ho, .bool false, .int .u32 id, .int .i64 of, .bool mo, .slice xa X.length xc, .slice da dat.length dc] 38) = W1 := ⟨_, rfl⟩
  have b1 := bel_nw hW1
  have P1 := blk_nw hW1
  clear hL hm hQE hQ hEX hEX' hext lL hX0
  go_enter Try.func6, Try.ntmps6
  go_wp2_with (refine wpList_load_row rfl _ _ rfl w.heap.size (by rfl) _ _ _ _ P1 Try.underlying38 rfl (by kernel_rfl) ?_)
  refine Calls.mono (KA.out _ (hx.below b1) (hdr.below b1)) ?_
  rintro e W2 ⟨a2, c2, rfl, f2⟩
  have P2 := P1.kept f2.below
  have b2 := bel_tr b1 f2.below
  have cm2 := f2.owns.cap_le
  have r2 := f2.row
  have n2 := f2.nil
  have m2 := f2.room
  clear KA f2 P1 b1 hW1
  go_wp2_with fail
  refine Calls.mono (KQ.out _ _ _ r2 n2 m2 cm2) ?_
  rintro e W3 ⟨a3, c3, ya, yc, rfl, f3, x3, l8⟩
  have P3 := P2.kept f3.below
  have b3 := bel_tr b2 f3.below
  have D3 := f3.row
  have X3 := x3.row (by omega)
  clear KQ f3 P2 b2 x3 r2 n2 m2 cm2
  obtain ⟨W4, hW4⟩ : ∃ W, W3.alloc (.cells #[.int .i64 0, .int .i64 0, .int .u64 0, .int .u64 0, .int .i64 0, .int .u64 0, .int .u64 0, .int .i64 0, .int .i64 0, .bool false, .int .u32 0, .int .i64 0, .bool false, .slice none 0 0, .slice none 0 0] 38) = W := ⟨_, rfl⟩
  have P4 := P3.al hW4
  have b4 := bel_al b3 hW4
  have Q4 := blk_nw hW4
  have e4 := bel_nw hW4
  have g3 : w.heap.size < W3.heap.size := P3.lt
  have P5 := P4.other (show w.heap.size ≠ W3.heap.size by omega) #[.int .i64 f, .int .i64 sf, .int .u64 sh, .int .u64 sl, .int .i64 df, .int .u64 dh, .int .u64 dl, .int .i64 pr, .int .i64 ho, .bool false, .int .u32 0, .int .i64 0, .bool false, .slice ya EX.length yc, .slice a3 dat.length c3]
  have Q5 := Q4.set #[.int .i64 f, .int .i64 sf, .int .u64 sh, .int .u64 sl, .int .i64 df, .int .u64 dh, .int .u64 dl, .int .i64 pr, .int .i64 ho, .bool false, .int .u32 0, .int .i64 0, .bool false, .slice ya EX.length yc, .slice a3 dat.length c3]
  have b5 := below_setRow b4 (Nat.le_of_lt g3) #[.int .i64 f, .int .i64 sf, .int .u64 sh, .int .u64 sl, .int .i64 df, .int .u64 dh, .int .u64 dl, .int .i64 pr, .int .i64 ho, .bool false, .int .u32 0, .int .i64 0, .bool false, .slice ya EX.length yc, .slice a3 dat.length c3]
  have e5 := below_setRow e4 (Nat.le_refl _) #[.int .i64 f, .int .i64 sf, .int .u64 sh, .int .u64 sl, .int .i64 df, .int .u64 dh, .int .u64 dl, .int .i64 pr, .int .i64 ho, .bool false, .int .u32 0, .int .i64 0, .bool false, .slice ya EX.length yc, .slice a3 dat.length c3]
  obtain ⟨W5, hW5⟩ : ∃ W, W4.setRow W3.heap.size #[.int .i64 f, .int .i64 sf, .int .u64 sh, .int .u64 sl, .int .i64 df, .int .u64 dh, .int .u64 dl, .int .i64 pr, .int .i64 ho, .bool false, .int .u32 0, .int .i64 0, .bool false, .slice ya EX.length yc, .slice a3 dat.length c3] = W := ⟨_, rfl⟩
  rw [hW5] at P5 Q5 b5 e5
  have HW5 : Hid _ := hW5
  have D5 := D3.below e5
  have X5 := X3.below e5
  clear hW5 e4 e5 D3 X3
  have d7 := P5.cell 7 (.int .i64 pr) rfl
  go_wp2_with (refine wpList_store_row rfl _ _ _ rfl W3.heap.size #[.int .i64 f, .int .i64 sf, .int .u64 sh, .int .u64 sl, .int .i64 df, .int .u64 dh, .int .u64 dl, .int .i64 pr, .int .i64 ho, .bool false, .int .u32 0, .int .i64 0, .bool false, .slice ya EX.length yc, .slice a3 dat.length c3] (by rfl) (by rfl) _ _ Q4 (by kernel_rfl) (by rfl) (by kernel_rfl) ?_; rw [HW5.out])
  refine Calls.mono (KI.out _) ?_
  rintro e W6 ⟨rfl, hW6⟩
  rw [hW6]
  clear hW6 W6 KI HW5 hW4 P4 Q4 b4 P3 b3 d7
  have e9 := P5.cell 9 (.bool false) rfl
  go_wp2_with fail
  clear e9
  refine wp_region_noPanic ?_
  refine wp_region_held_drew (S := fun w' => Blk w' W3.heap.size 38 #[.int .i64 f, .int .i64 sf, .int .u64 sh, .int .u64 sl, .int .i64 df, .int .u64 dh, .int .u64 dl, .int .i64 pr, .int .i64 ho, .bool false, .int .u32 0, .int .i64 0, .bool false, .slice ya EX.length yc, .slice a3 dat.length c3] ∧ Blk w' w.heap.size 38 #[.int .i64 f, .int .i64 sf, .int .u64 sh, .int .u64 sl, .int .i64 df, .int .u64 dh, .int .u64 dl, .int .i64 pr, .int .i64 ho, .bool false, .int .u32 id, .int .i64 of, .bool mo, .slice xa X.length xc, .slice da dat.length dc]) (by kernel_rfl) (by exact ⟨Q5.drew, P5.drew⟩) (fun hHeld => ?_)
  refine wpAnyH_take (i := 0) (oi := ip6zb48o11) (v := (.int .i64 0)) rfl (by kernel_rfl) (by kernel_rfl) (by kernel_rfl) (fun _ _ _ h => h) (Or.inl ⟨by rfl, ?_⟩) hHeld ?_
  · intro w9 hSw
    try dsimp only at hSw
    go_simp
  try simp only [Act.put, List.setIfInBounds_toArray, List.set_cons_zero, List.set_cons_succ]
  refine wpAnyH_take (i := 1) (oi := ip6zb48o6) (v := (.bool true)) rfl (by kernel_rfl) (by kernel_rfl) (by kernel_rfl) (fun _ _ _ h => h) (Or.inl ⟨by rfl, ?_⟩) hHeld ?_
  · intro w9 hSw
    try dsimp only at hSw
    go_simp
  try simp only [Act.put, List.setIfInBounds_toArray, List.set_cons_zero, List.set_cons_succ]
  refine wpAnyH_take (i := 2) (oi := ip6zb48o10) (v := (.bool true)) rfl (by kernel_rfl) (by kernel_rfl) (by kernel_rfl) (fun _ _ _ h => h) (Or.inl ⟨by rfl, ?_⟩) hHeld ?_
  · intro w9 hSw
    try dsimp only at hSw
    go_simp
  try simp only [Act.put, List.setIfInBounds_toArray, List.set_cons_zero, List.set_cons_succ]
  refine wpAnyH_take (i := 3) (oi := ip6zb48o8) (v := (.agg #[.int .i64 f, .int .i64 sf, .int .u64 sh, .int .u64 sl, .int .i64 df, .int .u64 dh, .int .u64 dl, .int .i64 pr, .int .i64 ho, .bool false, .int .u32 0, .int .i64 0, .bool false, .slice ya EX.length yc, .slice a3 dat.length c3])) rfl (by kernel_rfl) (by kernel_rfl) (by kernel_rfl) (fun _ _ _ h => h) (yieldsIf_blk_w (by kernel_rfl) _ _ rfl W3.heap.size (by rfl) _ (fun _ hSw => hSw.1) Try.underlying38 (by kernel_rfl)) hHeld ?_
  try simp only [Act.put, List.setIfInBounds_toArray, List.set_cons_zero, List.set_cons_succ]
  refine wpAnyH_take (i := 4) (oi := ip6zb48o9) (v := (.agg #[.int .i64 f, .int .i64 sf, .int .u64 sh, .int .u64 sl, .int .i64 df, .int .u64 dh, .int .u64 dl, .int .i64 pr, .int .i64 ho, .bool false, .int .u32 id, .int .i64 of, .bool mo, .slice xa X.length xc, .slice da dat.length dc])) rfl (by kernel_rfl) (by kernel_rfl) (by kernel_rfl) (fun _ _ _ h => h) (yieldsIf_blk_w (by kernel_rfl) _ _ rfl w.heap.size (by rfl) _ (fun _ hSw => hSw.2) Try.underlying38 (by kernel_rfl)) hHeld ?_
  try simp only [Act.put, List.setIfInBounds_toArray, List.set_cons_zero, List.set_cons_succ]
  have Qd := Q5.drew
  have Pd := P5.drew
  have bd := b5.drew
  have Dd := D5.below (Below.refl _ _).drew
  have Xd := X5.below (Below.refl _ _).drew
  obtain ⟨Wd, hWd⟩ : ∃ W, W5.drew = W := ⟨_, rfl⟩
  rw [hWd] at Qd Pd bd Dd Xd hHeld ⊢
  clear hWd P5 Q5 b5 D5 X5
  refine wpAnyH_ready (rs := [5]) (by kernel_rfl) (by simp) ?_
  refine AllReadyH.cons (o := ip6zb48o2) rfl (fun K hK => ?_) AllReadyH.nil
  go_simp
  refine Calls.mono (KBr.out _) ?_
  rintro e W10 ⟨rfl, bb⟩
  have Q10 := Qd.kept bb
  have P10 := Pd.kept bb
  have b10 := bel_tr bd bb
  have D10 := Dd.below bb
  have X10 := Xd.below bb
  have rb := (hx.below b10)
  refine hK.out _ _ ?_ (fun hHeld => ?_)
  · exact ⟨Q10, P10⟩
  clear hK K
  try simp only [Act.put, List.setIfInBounds_toArray, List.set_cons_zero, List.set_cons_succ]
  have KS : Hid _ := same_ip6 f sf sh sl df dh dl pr ho false 0 0 false ya yc xa xc [] a3 c3 da dc dat W10 D10 (hdr.below b10) (by have := X10; rw [HEX.out] at this; exact this) (by have := rb; rw [HX0.out] at this; exact this)
  have KSx : Hid (Calls Try.prog 17 #[.agg #[.int .i64 f, .int .i64 sf, .int .u64 sh, .int .u64 sl, .int .i64 df, .int .u64 dh, .int .u64 dl, .int .i64 pr, .int .i64 ho, .bool false, .int .u32 0, .int .i64 0, .bool false, .slice ya EX.length yc, .slice a3 dat.length c3], .agg #[.int .i64 f, .int .i64 sf, .int .u64 sh, .int .u64 sl, .int .i64 df, .int .u64 dh, .int .u64 dl, .int .i64 pr, .int .i64 ho, .bool false, .int .u32 0, .int .i64 0, .bool false, .slice xa X.length xc, .slice da dat.length dc]] W10 fun e w' => e = .returned (.bool true) ∧ Below W10.heap.size W10 w') := by
    have := KS.out
    rw [HEX.out, HX0.out]
    exact this
  refine wpAnyH_ready (rs := [6]) (by kernel_rfl) (by simp) ?_
  refine AllReadyH.cons (o := ip6zb48o1) rfl (fun K hK => ?_) AllReadyH.nil
  go_simp
  refine Calls.mono KSx.out ?_
  rintro e W11 ⟨rfl, bb⟩
  have Q11 := Q10.kept bb
  have P11 := P10.kept bb
  have b11 := bel_tr b10 bb
  refine hK.out _ _ ?_ (fun hHeld => ?_)
  · exact ⟨Q11, P11⟩
  clear hK K
  try simp only [Act.put, List.setIfInBounds_toArray, List.set_cons_zero, List.set_cons_succ]
  refine wpAnyH_take (i := 7) (oi := ip6zb48o4) (v := (.bool true)) rfl (by kernel_rfl) (by kernel_rfl) (by kernel_rfl) (fun _ _ _ h => h) (Or.inl ⟨by rfl, ?_⟩) hHeld ?_
  · intro w9 hSw
    try dsimp only at hSw
    go_simp
  try simp only [Act.put, List.setIfInBounds_toArray, List.set_cons_zero, List.set_cons_succ]
  refine wpAnyH_take (i := 8) (oi := ip6zb48o7) (v := (.bool true)) rfl (by kernel_rfl) (by kernel_rfl) (by kernel_rfl) (fun _ _ _ h => h) (Or.inl ⟨by rfl, ?_⟩) hHeld ?_
  · intro w9 hSw
    try dsimp only at hSw
    go_simp
  try simp only [Act.put, List.setIfInBounds_toArray, List.set_cons_zero, List.set_cons_succ]
  refine wpAnyH_ready (rs := [9]) (by kernel_rfl) (by simp) ?_
  refine AllReadyH.cons (o := ip6zb48o3) rfl (fun K hK => ?_) AllReadyH.nil
  go_simp
  refine Calls.mono (KL.out _) ?_
  rintro e W12 ⟨rfl, bb⟩
  have Q12 := Q11.kept bb
  have P12 := P11.kept bb
  have b12 := bel_tr b11 bb
  refine hK.out _ _ ?_ (fun hHeld => ?_)
  · exact ⟨Q12, P12⟩
  clear hK K
  try simp only [Act.put, List.setIfInBounds_toArray, List.set_cons_zero, List.set_cons_succ]
  refine wpAnyH_take (i := 10) (oi := ip6zb48o5) (v := (.bool true)) rfl (by kernel_rfl) (by kernel_rfl) (by kernel_rfl) (fun _ _ _ h => h) (Or.inl ⟨by rfl, ?_⟩) hHeld ?_
  · intro w9 hSw
    try dsimp only at hSw
    go_simp
  try simp only [Act.put, List.setIfInBounds_toArray, List.set_cons_zero, List.set_cons_succ]
  refine wpAnyH_take (i := 11) (oi := ip6zb48o0) (v := (.bool true)) rfl (by kernel_rfl) (by kernel_rfl) (by kernel_rfl) (fun _ _ _ h => h) (Or.inl ⟨by rfl, ?_⟩) hHeld ?_
  · intro w9 hSw
    try dsimp only at hSw
    go_simp
  try simp only [Act.put, List.setIfInBounds_toArray, List.set_cons_zero, List.set_cons_succ]
  refine wpAnyH_done (by kernel_rfl) ?_ _
  refine NoPanic.normal ?_
  go_wp2
  go_ret
  exact ⟨rfl, b12⟩
set_option maxRecDepth 100000 in
set_option maxHeartbeats 4000000 in
theorem ip6Back_t1 (f sf sh sl df dh dl pr ho : Int) (id of : Int) (mo : Bool) (xa : Option Addr) (xc : Nat) (X : List Int) (da : Option Addr) (dat : List Int) (dc : Nat) (w : World) (hx : RowI w xa X) (hdr : Row w da dat) (hdc : dat.length ≤ dc) (hdm : dc ≤ 140737488351232) (hdn : da = none → dc = 0) (hsrc : Ad.ok ⟨sf, sh, sl⟩) (hdst : Ad.ok ⟨df, dh, dl⟩) (hid : 0 ≤ id ∧ id ≤ 4294967295) (hof : -9223372036854775808 ≤ of ∧ of ≤ 9223372036854775807) (hm : may6 f sf df pr ho true X of mo dat.length = true) (hext : isExt pr = false) (hof0 : ¬ of = 0) :
    Calls Try.prog 6 #[.agg #[.int .i64 f, .int .i64 sf, .int .u64 sh, .int .u64 sl, .int .i64 df, .int .u64 dh, .int .u64 dl, .int .i64 pr, .int .i64 ho, .bool true, .int .u32 id, .int .i64 of, .bool mo, .slice xa X.length xc, .slice da dat.length dc]] w fun e w' => e = .returned (.bool true) ∧ Below w.heap.size w w' := by
  have hw : ¬ (of = 0 ∧ whole pr dat = false) := fun h => hof0 h.1
  obtain ⟨L, hL⟩ : ∃ L, build6 f ⟨sf, sh, sl⟩ ⟨df, dh, dl⟩ pr ho true id of mo X dat = L := ⟨_, rfl⟩
  have KA : Hid (∀ W, RowI W xa X → Row W da dat → Calls Try.prog 18 #[.agg #[.int .i64 f, .int .i64 sf, .int .u64 sh, .int .u64 sl, .int .i64 df, .int .u64 dh, .int .u64 dl, .int .i64 pr, .int .i64 ho, .bool true, .int .u32 id, .int .i64 of, .bool mo, .slice xa X.length xc, .slice da dat.length dc]] W fun e w' => ∃ a c, e = .returned (.tuple #[.slice a L.length c, .int .i64 0]) ∧ Fresh W w' a c L) := fun W h1 h2 => by
    have := build6_any f sf sh sl df dh dl pr ho true id of mo xa xc X da dat dc W h1 h2 hdn hsrc hdst hid hof
    rw [hm, hL] at this
    exact this
  have lL := build6_len f ⟨sf, sh, sl⟩ ⟨df, dh, dl⟩ pr ho true id of mo X dat hm
  rw [hL] at lL
  obtain ⟨hQE, hQ, hEX'⟩ := back6_t hsrc hdst hid hm hw
  rw [hL] at hQE hQ hEX'
  obtain ⟨EX, hEX⟩ : ∃ X, exts6 L = X := ⟨_, rfl⟩
  have HEX : Hid (EX = [44]) := hEX.symm.trans hEX'
  have KQ : Hid (∀ W a c, Row W a L → (a = none → c = 0) → L.length ≤ c → c ≤ 9223372036854775807 → Calls Try.prog 15 #[.slice a L.length c] W fun e w' => ∃ a3 c3 ya yc, e = .returned (.tuple #[.agg #[.int .i64 f, .int .i64 sf, .int .u64 sh, .int .u64 sl, .int .i64 df, .int .u64 dh, .int .u64 dl, .int .i64 pr, .int .i64 ho, .bool true, .int .u32 id, .int .i64 of, .bool mo, .slice ya EX.length yc, .slice a3 dat.length c3], .int .i64 0]) ∧ Fresh W w' a3 c3 dat ∧ OwnsI w' W.heap.size (.slice ya EX.length yc) EX ∧ EX.length ≤ 8) := fun W a c h1 h2 h3 h4 => by
    have := parse6_any a c L W h1 h2 (by omega) h3 h4
    unfold Got6 at this
    rw [hQE, hQ, hEX] at this
    exact this
  have KI : Hid (∀ W, Calls Try.prog 20 #[.int .i64 pr] W fun e w' => e = .returned (.bool false) ∧ w' = W) := fun W => by
    have := isExt_any pr W
    rw [hext] at this
    exact this
  have KBr : Hid (∀ W, Calls Try.prog 22 #[.agg #[.int .i64 f, .int .i64 sf, .int .u64 sh, .int .u64 sl, .int .i64 df, .int .u64 dh, .int .u64 dl, .int .i64 pr, .int .i64 ho, .bool true, .int .u32 id, .int .i64 of, .bool mo, .slice xa X.length xc, .slice da dat.length dc]] W fun e w' => ∃ g, e = .returned (.agg #[.int .i64 f, .int .i64 sf, .int .u64 sh, .int .u64 sl, .int .i64 df, .int .u64 dh, .int .u64 dl, .int .i64 pr, .int .i64 ho, .bool true, .int .u32 id, .int .i64 of, .bool mo, .slice (some ⟨g, 0, none⟩) 1 1, .slice da dat.length dc]) ∧ RowI w' (some ⟨g, 0, none⟩) [44] ∧ Below W.heap.size W w') := fun W => bare6_t f sf sh sl df dh dl pr ho id of mo xa X.length xc da dat.length dc W
  have KL : Hid _ := alive6_any
  obtain ⟨W1, hW1⟩ : ∃ W1, w.alloc (.cells #[.int .i64 f, .int .i64 sf, .int .u64 sh, .int .u64 sl, .int .i64 df, .int .u64 dh, .int .u64 dl, .int .i64 pr, .int .i64 ho, .bool true, .int .u32 id, .int .i64 of, .bool mo, .slice xa X.length xc, .slice da dat.length dc] 38) = W1 := ⟨_, rfl⟩
  have b1 := bel_nw hW1
  have P1 := blk_nw hW1
  clear hL hm hQE hQ hEX hEX' hext lL hw
  go_enter Try.func6, Try.ntmps6
  go_wp2_with (refine wpList_load_row rfl _ _ rfl w.heap.size (by rfl) _ _ _ _ P1 Try.underlying38 rfl (by kernel_rfl) ?_)
  refine Calls.mono (KA.out _ (hx.below b1) (hdr.below b1)) ?_
  rintro e W2 ⟨a2, c2, rfl, f2⟩
  have P2 := P1.kept f2.below
  have b2 := bel_tr b1 f2.below
  have cm2 := f2.owns.cap_le
  have r2 := f2.row
  have n2 := f2.nil
  have m2 := f2.room
  clear KA f2 P1 b1 hW1
  go_wp2_with fail
  refine Calls.mono (KQ.out _ _ _ r2 n2 m2 cm2) ?_
  rintro e W3 ⟨a3, c3, ya, yc, rfl, f3, x3, l8⟩
  have P3 := P2.kept f3.below
  have b3 := bel_tr b2 f3.below
  have D3 := f3.row
  have X3 := x3.row (by omega)
  clear KQ f3 P2 b2 x3 r2 n2 m2 cm2
  obtain ⟨W4, hW4⟩ : ∃ W, W3.alloc (.cells #[.int .i64 0, .int .i64 0, .int .u64 0, .int .u64 0, .int .i64 0, .int .u64 0, .int .u64 0, .int .i64 0, .int .i64 0, .bool false, .int .u32 0, .int .i64 0, .bool false, .slice none 0 0, .slice none 0 0] 38) = W := ⟨_, rfl⟩
  have P4 := P3.al hW4
  have b4 := bel_al b3 hW4
  have Q4 := blk_nw hW4
  have e4 := bel_nw hW4
  have g3 : w.heap.size < W3.heap.size := P3.lt
  have P5 := P4.other (show w.heap.size ≠ W3.heap.size by omega) #[.int .i64 f, .int .i64 sf, .int .u64 sh, .int .u64 sl, .int .i64 df, .int .u64 dh, .int .u64 dl, .int .i64 pr, .int .i64 ho, .bool true, .int .u32 id, .int .i64 of, .bool mo, .slice ya EX.length yc, .slice a3 dat.length c3]
  have Q5 := Q4.set #[.int .i64 f, .int .i64 sf, .int .u64 sh, .int .u64 sl, .int .i64 df, .int .u64 dh, .int .u64 dl, .int .i64 pr, .int .i64 ho, .bool true, .int .u32 id, .int .i64 of, .bool mo, .slice ya EX.length yc, .slice a3 dat.length c3]
  have b5 := below_setRow b4 (Nat.le_of_lt g3) #[.int .i64 f, .int .i64 sf, .int .u64 sh, .int .u64 sl, .int .i64 df, .int .u64 dh, .int .u64 dl, .int .i64 pr, .int .i64 ho, .bool true, .int .u32 id, .int .i64 of, .bool mo, .slice ya EX.length yc, .slice a3 dat.length c3]
  have e5 := below_setRow e4 (Nat.le_refl _) #[.int .i64 f, .int .i64 sf, .int .u64 sh, .int .u64 sl, .int .i64 df, .int .u64 dh, .int .u64 dl, .int .i64 pr, .int .i64 ho, .bool true, .int .u32 id, .int .i64 of, .bool mo, .slice ya EX.length yc, .slice a3 dat.length c3]
  obtain ⟨W5, hW5⟩ : ∃ W, W4.setRow W3.heap.size #[.int .i64 f, .int .i64 sf, .int .u64 sh, .int .u64 sl, .int .i64 df, .int .u64 dh, .int .u64 dl, .int .i64 pr, .int .i64 ho, .bool true, .int .u32 id, .int .i64 of, .bool mo, .slice ya EX.length yc, .slice a3 dat.length c3] = W := ⟨_, rfl⟩
  rw [hW5] at P5 Q5 b5 e5
  have HW5 : Hid _ := hW5
  have D5 := D3.below e5
  have X5 := X3.below e5
  clear hW5 e4 e5 D3 X3
  have d7 := P5.cell 7 (.int .i64 pr) rfl
  go_wp2_with (refine wpList_store_row rfl _ _ _ rfl W3.heap.size #[.int .i64 f, .int .i64 sf, .int .u64 sh, .int .u64 sl, .int .i64 df, .int .u64 dh, .int .u64 dl, .int .i64 pr, .int .i64 ho, .bool true, .int .u32 id, .int .i64 of, .bool mo, .slice ya EX.length yc, .slice a3 dat.length c3] (by rfl) (by rfl) _ _ Q4 (by kernel_rfl) (by rfl) (by kernel_rfl) ?_; rw [HW5.out])
  refine Calls.mono (KI.out _) ?_
  rintro e W6 ⟨rfl, hW6⟩
  rw [hW6]
  clear hW6 W6 KI HW5 hW4 P4 Q4 b4 P3 b3 d7
  have e9 := P5.cell 9 (.bool true) rfl
  have e11 := P5.cell 11 (.int .i64 of) rfl
  have ho0 : (of == 0) = false := by simpa using hof0
  clear hof0
  go_wp2_with fail
  clear e9 e11
  refine wp_region_noPanic ?_
  refine wp_region_held_drew (S := fun w' => Blk w' W3.heap.size 38 #[.int .i64 f, .int .i64 sf, .int .u64 sh, .int .u64 sl, .int .i64 df, .int .u64 dh, .int .u64 dl, .int .i64 pr, .int .i64 ho, .bool true, .int .u32 id, .int .i64 of, .bool mo, .slice ya EX.length yc, .slice a3 dat.length c3] ∧ Blk w' w.heap.size 38 #[.int .i64 f, .int .i64 sf, .int .u64 sh, .int .u64 sl, .int .i64 df, .int .u64 dh, .int .u64 dl, .int .i64 pr, .int .i64 ho, .bool true, .int .u32 id, .int .i64 of, .bool mo, .slice xa X.length xc, .slice da dat.length dc]) (by kernel_rfl) (by exact ⟨Q5.drew, P5.drew⟩) (fun hHeld => ?_)
  refine wpAnyH_take (i := 0) (oi := ip6zb48o11) (v := (.int .i64 0)) rfl (by kernel_rfl) (by kernel_rfl) (by kernel_rfl) (fun _ _ _ h => h) (Or.inl ⟨by rfl, ?_⟩) hHeld ?_
  · intro w9 hSw
    try dsimp only at hSw
    go_simp
  try simp only [Act.put, List.setIfInBounds_toArray, List.set_cons_zero, List.set_cons_succ]
  refine wpAnyH_take (i := 1) (oi := ip6zb48o6) (v := (.bool true)) rfl (by kernel_rfl) (by kernel_rfl) (by kernel_rfl) (fun _ _ _ h => h) (Or.inl ⟨by rfl, ?_⟩) hHeld ?_
  · intro w9 hSw
    try dsimp only at hSw
    go_simp
  try simp only [Act.put, List.setIfInBounds_toArray, List.set_cons_zero, List.set_cons_succ]
  refine wpAnyH_take (i := 2) (oi := ip6zb48o10) (v := (.bool true)) rfl (by kernel_rfl) (by kernel_rfl) (by kernel_rfl) (fun _ _ _ h => h) (Or.inl ⟨by rfl, ?_⟩) hHeld ?_
  · intro w9 hSw
    try dsimp only at hSw
    go_simp
  try simp only [Act.put, List.setIfInBounds_toArray, List.set_cons_zero, List.set_cons_succ]
  refine wpAnyH_take (i := 3) (oi := ip6zb48o8) (v := (.agg #[.int .i64 f, .int .i64 sf, .int .u64 sh, .int .u64 sl, .int .i64 df, .int .u64 dh, .int .u64 dl, .int .i64 pr, .int .i64 ho, .bool true, .int .u32 id, .int .i64 of, .bool mo, .slice ya EX.length yc, .slice a3 dat.length c3])) rfl (by kernel_rfl) (by kernel_rfl) (by kernel_rfl) (fun _ _ _ h => h) (yieldsIf_blk_w (by kernel_rfl) _ _ rfl W3.heap.size (by rfl) _ (fun _ hSw => hSw.1) Try.underlying38 (by kernel_rfl)) hHeld ?_
  try simp only [Act.put, List.setIfInBounds_toArray, List.set_cons_zero, List.set_cons_succ]
  refine wpAnyH_take (i := 4) (oi := ip6zb48o9) (v := (.agg #[.int .i64 f, .int .i64 sf, .int .u64 sh, .int .u64 sl, .int .i64 df, .int .u64 dh, .int .u64 dl, .int .i64 pr, .int .i64 ho, .bool true, .int .u32 id, .int .i64 of, .bool mo, .slice xa X.length xc, .slice da dat.length dc])) rfl (by kernel_rfl) (by kernel_rfl) (by kernel_rfl) (fun _ _ _ h => h) (yieldsIf_blk_w (by kernel_rfl) _ _ rfl w.heap.size (by rfl) _ (fun _ hSw => hSw.2) Try.underlying38 (by kernel_rfl)) hHeld ?_
  try simp only [Act.put, List.setIfInBounds_toArray, List.set_cons_zero, List.set_cons_succ]
  have Qd := Q5.drew
  have Pd := P5.drew
  have bd := b5.drew
  have Dd := D5.below (Below.refl _ _).drew
  have Xd := X5.below (Below.refl _ _).drew
  obtain ⟨Wd, hWd⟩ : ∃ W, W5.drew = W := ⟨_, rfl⟩
  rw [hWd] at Qd Pd bd Dd Xd hHeld ⊢
  clear hWd P5 Q5 b5 D5 X5
  refine wpAnyH_ready (rs := [5]) (by kernel_rfl) (by simp) ?_
  refine AllReadyH.cons (o := ip6zb48o2) rfl (fun K hK => ?_) AllReadyH.nil
  go_simp
  refine Calls.mono (KBr.out _) ?_
  rintro e W10 ⟨gb, rfl, rb, bb⟩
  have Q10 := Qd.kept bb
  have P10 := Pd.kept bb
  have b10 := bel_tr bd bb
  have D10 := Dd.below bb
  have X10 := Xd.below bb
  refine hK.out _ _ ?_ (fun hHeld => ?_)
  · exact ⟨Q10, P10⟩
  clear hK K
  try simp only [Act.put, List.setIfInBounds_toArray, List.set_cons_zero, List.set_cons_succ]
  have KS : Hid _ := same_ip6 f sf sh sl df dh dl pr ho true id of mo ya yc (some ⟨gb, 0, none⟩) 1 [44] a3 c3 da dc dat W10 D10 (hdr.below b10) (by have := X10; rw [HEX.out] at this; exact this) rb
  have KSx : Hid (Calls Try.prog 17 #[.agg #[.int .i64 f, .int .i64 sf, .int .u64 sh, .int .u64 sl, .int .i64 df, .int .u64 dh, .int .u64 dl, .int .i64 pr, .int .i64 ho, .bool true, .int .u32 id, .int .i64 of, .bool mo, .slice ya EX.length yc, .slice a3 dat.length c3], .agg #[.int .i64 f, .int .i64 sf, .int .u64 sh, .int .u64 sl, .int .i64 df, .int .u64 dh, .int .u64 dl, .int .i64 pr, .int .i64 ho, .bool true, .int .u32 id, .int .i64 of, .bool mo, .slice (some ⟨gb, 0, none⟩) 1 1, .slice da dat.length dc]] W10 fun e w' => e = .returned (.bool true) ∧ Below W10.heap.size W10 w') := by
    have := KS.out
    rw [HEX.out]
    exact this
  refine wpAnyH_ready (rs := [6]) (by kernel_rfl) (by simp) ?_
  refine AllReadyH.cons (o := ip6zb48o1) rfl (fun K hK => ?_) AllReadyH.nil
  go_simp
  refine Calls.mono KSx.out ?_
  rintro e W11 ⟨rfl, bb⟩
  have Q11 := Q10.kept bb
  have P11 := P10.kept bb
  have b11 := bel_tr b10 bb
  refine hK.out _ _ ?_ (fun hHeld => ?_)
  · exact ⟨Q11, P11⟩
  clear hK K
  try simp only [Act.put, List.setIfInBounds_toArray, List.set_cons_zero, List.set_cons_succ]
  refine wpAnyH_take (i := 7) (oi := ip6zb48o4) (v := (.bool true)) rfl (by kernel_rfl) (by kernel_rfl) (by kernel_rfl) (fun _ _ _ h => h) (Or.inl ⟨by rfl, ?_⟩) hHeld ?_
  · intro w9 hSw
    try dsimp only at hSw
    go_simp
  try simp only [Act.put, List.setIfInBounds_toArray, List.set_cons_zero, List.set_cons_succ]
  refine wpAnyH_take (i := 8) (oi := ip6zb48o7) (v := (.bool true)) rfl (by kernel_rfl) (by kernel_rfl) (by kernel_rfl) (fun _ _ _ h => h) (Or.inl ⟨by rfl, ?_⟩) hHeld ?_
  · intro w9 hSw
    try dsimp only at hSw
    go_simp
  try simp only [Act.put, List.setIfInBounds_toArray, List.set_cons_zero, List.set_cons_succ]
  refine wpAnyH_ready (rs := [9]) (by kernel_rfl) (by simp) ?_
  refine AllReadyH.cons (o := ip6zb48o3) rfl (fun K hK => ?_) AllReadyH.nil
  go_simp
  refine Calls.mono (KL.out _) ?_
  rintro e W12 ⟨rfl, bb⟩
  have Q12 := Q11.kept bb
  have P12 := P11.kept bb
  have b12 := bel_tr b11 bb
  refine hK.out _ _ ?_ (fun hHeld => ?_)
  · exact ⟨Q12, P12⟩
  clear hK K
  try simp only [Act.put, List.setIfInBounds_toArray, List.set_cons_zero, List.set_cons_succ]
  refine wpAnyH_take (i := 10) (oi := ip6zb48o5) (v := (.bool true)) rfl (by kernel_rfl) (by kernel_rfl) (by kernel_rfl) (fun _ _ _ h => h) (Or.inl ⟨by rfl, ?_⟩) hHeld ?_
  · intro w9 hSw
    try dsimp only at hSw
    go_simp
  try simp only [Act.put, List.setIfInBounds_toArray, List.set_cons_zero, List.set_cons_succ]
  refine wpAnyH_take (i := 11) (oi := ip6zb48o0) (v := (.bool true)) rfl (by kernel_rfl) (by kernel_rfl) (by kernel_rfl) (fun _ _ _ h => h) (Or.inl ⟨by rfl, ?_⟩) hHeld ?_
  · intro w9 hSw
    try dsimp only at hSw
    go_simp
  try simp only [Act.put, List.setIfInBounds_toArray, List.set_cons_zero, List.set_cons_succ]
  refine wpAnyH_done (by kernel_rfl) ?_ _
  refine NoPanic.normal ?_
  go_wp2
  go_ret
  exact ⟨rfl, b12⟩
end Go.Proofs.Ytmnkdogdligckaa
