/- Texts joined: Ip6Bx -/
import Derived.Test.YtmnkdogdligckaaIp6zb34
import Derived.Test.YtmnkdogdligckaaIp6zb46
namespace Go.Proofs.Ytmnkdogdligckaa
open Go.RowKit
set_option linter.unusedVariables false
set_option linter.unusedSimpArgs false
theorem yieldsIf_blk_w {ops : Array Oper} {S : World → Prop} {o : Oper} {ac : Act} (hw : Region.wanted o (yielded ops ac.tmps) = true) (t : TypeId) (p : Operand) (ho : o.op = Op.load t p) (g : Nat) (hp : ac.eval p = .pointer (some ⟨g, 0, none⟩)) (cs : Array Value)
    (hS : ∀ w, S w → Blk w g t cs) {fs : _} (hu : Try.prog.underlying t = some (.struct fs)) (hi : (Try.prog.info? t).map (·.size) = some cs.size) : YieldsIf Try.prog ops S o (.agg cs) ac := by
  refine .inl ⟨hw, fun w hw' => ?_⟩
  have hl := load_blk (hS w hw') hu hi
  simp [execOp, ho, hp, Instr.loadAt, Instr.sureAddr, hl, Result.andThen]
theorem build6_len (f : Int) (s d : Ad) (pr ho : Int) (fg : Bool) (id of : Int) (mo : Bool) (X dat : List Int) (hm : may6 f s.fam d.fam pr ho fg X of mo dat.length = true) : (build6 f s d pr ho fg id of mo X dat).length ≤ 70000 := by
  have h8 : dat.length ≤ 65000 := by
    unfold may6 at hm
    simp only [Bool.and_eq_true, decide_eq_true_eq] at hm
    exact hm.1.2
  unfold build6
  rw [if_pos hm, made6_eq]
  have h1 := bytes_le s
  have h2 := bytes_le d
  have h3 : (if fg = true then fh pr of mo id else []).length ≤ 8 := by
    split
    · simp [fh, put32, put16]
    · simp
  simp only [List.length_append, List.length_cons, List.length_nil]
  omega
set_option maxRecDepth 100000 in
set_option maxHeartbeats 4000000 in
theorem ip6Back_no (f sf sh sl df dh dl pr ho : Int) (fg : Bool) (id of : Int) (mo : Bool) (xa : Option Addr) (xc : Nat) (X : List Int) (da : Option Addr) (dat : List Int) (dc : Nat) (w : World) (hx : RowI w xa X) (hdr : Row w da dat) (hdc : dat.length ≤ dc) (hdm : dc ≤ 140737488351232) (hdn : da = none → dc = 0) (hsrc : Ad.ok ⟨sf, sh, sl⟩) (hdst : Ad.ok ⟨df, dh, dl⟩) (hid : 0 ≤ id ∧ id ≤ 4294967295) (hof : -9223372036854775808 ≤ of ∧ of ≤ 9223372036854775807) (hm : may6 f sf df pr ho fg X of mo dat.length = false) :
    Calls Try.prog 6 #[.agg #[.int .i64 f, .int .i64 sf, .int .u64 sh, .int .u64 sl, .int .i64 df, .int .u64 dh, .int .u64 dl, .int .i64 pr, .int .i64 ho, .bool fg, .int .u32 id, .int .i64 of, .bool mo, .slice xa X.length xc, .slice da dat.length dc]] w fun e w' => e = .returned (.bool true) ∧ Below w.heap.size w w' := by
  obtain ⟨L, hL⟩ : ∃ L, build6 f ⟨sf, sh, sl⟩ ⟨df, dh, dl⟩ pr ho fg id of mo X dat = L := ⟨_, rfl⟩
  have KA : Hid (∀ W, RowI W xa X → Row W da dat → Calls Try.prog 18 #[.agg #[.int .i64 f, .int .i64 sf, .int .u64 sh, .int .u64 sl, .int .i64 df, .int .u64 dh, .int .u64 dl, .int .i64 pr, .int .i64 ho, .bool fg, .int .u32 id, .int .i64 of, .bool mo, .slice xa X.length xc, .slice da dat.length dc]] W fun e w' => ∃ a c, e = .returned (.tuple #[.slice a L.length c, .int .i64 1]) ∧ Fresh W w' a c L) := fun W h1 h2 => by
    have := build6_any f sf sh sl df dh dl pr ho fg id of mo xa xc X da dat dc W h1 h2 hdn hsrc hdst hid hof
    rw [hm, hL] at this
    exact this
  have hL0 : L = [] := by rw [← hL]; unfold build6; rw [hm]; rfl
  have KL : Hid _ := alive6_any
  obtain ⟨W1, hW1⟩ : ∃ W1, w.alloc (.cells #[.int .i64 f, .int .i64 sf, .int .u64 sh, .int .u64 sl, .int .i64 df, .int .u64 dh, .int .u64 dl, .int .i64 pr, .int .i64 ho, .bool fg, .int .u32 id, .int .i64 of, .bool mo, .slice xa X.length xc, .slice da dat.length dc] 38) = W1 := ⟨_, rfl⟩
  have b1 := bel_nw hW1
  have P1 := blk_nw hW1
  clear hL hm
  subst hL0
  go_enter Try.func6, Try.ntmps6
  go_wp2_with (refine wpList_load_row rfl _ _ rfl w.heap.size (by rfl) _ _ _ _ P1 Try.underlying38 rfl (by kernel_rfl) ?_)
  refine Calls.mono (KA.out _ (hx.below b1) (hdr.below b1)) ?_
  rintro e W2 ⟨a2, c2, rfl, f2⟩
  have P2 := P1.kept f2.below
  have b2 := bel_tr b1 f2.below
  have cm2 := f2.owns.cap_le
  clear KA f2 P1 b1 hW1 P2 cm2
  go_wp2_with fail
  refine Calls.mono (KL.out _) ?_
  rintro e W9 ⟨rfl, bb⟩
  have b9 := bel_tr b2 bb
  clear bb KL
  go_wp2
  go_ret
  exact ⟨rfl, b9⟩
set_option maxRecDepth 100000 in
set_option maxHeartbeats 4000000 in
theorem ip6Back_ext (f sf sh sl df dh dl pr ho : Int) (fg : Bool) (id of : Int) (mo : Bool) (xa : Option Addr) (xc : Nat) (X : List Int) (da : Option Addr) (dat : List Int) (dc : Nat) (w : World) (hx : RowI w xa X) (hdr : Row w da dat) (hdc : dat.length ≤ dc) (hdm : dc ≤ 140737488351232) (hdn : da = none → dc = 0) (hsrc : Ad.ok ⟨sf, sh, sl⟩) (hdst : Ad.ok ⟨df, dh, dl⟩) (hid : 0 ≤ id ∧ id ≤ 4294967295) (hof : -9223372036854775808 ≤ of ∧ of ≤ 9223372036854775807) (hm : may6 f sf df pr ho fg X of mo dat.length = true) (hext : isExt pr = true) :
    Calls Try.prog 6 #[.agg #[.int .i64 f, .int .i64 sf, .int .u64 sh, .int .u64 sl, .int .i64 df, .int .u64 dh, .int .u64 dl, .int .i64 pr, .int .i64 ho, .bool fg, .int .u32 id, .int .i64 of, .bool mo, .slice xa X.length xc, .slice da dat.length dc]] w fun e w' => e = .returned (.bool true) ∧ Below w.heap.size w w' := by
  obtain ⟨L, hL⟩ : ∃ L, build6 f ⟨sf, sh, sl⟩ ⟨df, dh, dl⟩ pr ho fg id of mo X dat = L := ⟨_, rfl⟩
  have KA : Hid (∀ W, RowI W xa X → Row W da dat → Calls Try.prog 18 #[.agg #[.int .i64 f, .int .i64 sf, .int .u64 sh, .int .u64 sl, .int .i64 df, .int .u64 dh, .int .u64 dl, .int .i64 pr, .int .i64 ho, .bool fg, .int .u32 id, .int .i64 of, .bool mo, .slice xa X.length xc, .slice da dat.length dc]] W fun e w' => ∃ a c, e = .returned (.tuple #[.slice a L.length c, .int .i64 0]) ∧ Fresh W w' a c L) := fun W h1 h2 => by
    have := build6_any f sf sh sl df dh dl pr ho fg id of mo xa xc X da dat dc W h1 h2 hdn hsrc hdst hid hof
    rw [hm, hL] at this
    exact this
  have lL := build6_len f ⟨sf, sh, sl⟩ ⟨df, dh, dl⟩ pr ho fg id of mo X dat hm
  rw [hL] at lL
  obtain ⟨QE, hQE⟩ : ∃ E, perr6 L = E := ⟨_, rfl⟩
  obtain ⟨⟨qf, ⟨qsf, qsh, qsl⟩, ⟨qdf, qdh, qdl⟩, qpr, qho, qfg, qid, qof, qmo, QD⟩, hQ⟩ : ∃ P, parsed6 L = P := ⟨_, rfl⟩
  obtain ⟨EX, hEX⟩ : ∃ X, exts6 L = X := ⟨_, rfl⟩
  have KQ : Hid (∀ W a c, Row W a L → (a = none → c = 0) → L.length ≤ c → c ≤ 9223372036854775807 → Calls Try.prog 15 #[.slice a L.length c] W fun e w' => ∃ a3 c3 ya yc, e = .returned (.tuple #[.agg #[.int .i64 qf, .int .i64 qsf, .int .u64 qsh, .int .u64 qsl, .int .i64 qdf, .int .u64 qdh, .int .u64 qdl, .int .i64 qpr, .int .i64 qho, .bool qfg, .int .u32 qid, .int .i64 qof, .bool qmo, .slice ya EX.length yc, .slice a3 QD.length c3], .int .i64 QE]) ∧ Fresh W w' a3 c3 QD ∧ OwnsI w' W.heap.size (.slice ya EX.length yc) EX ∧ EX.length ≤ 8) := fun W a c h1 h2 h3 h4 => by
    have := parse6_any a c L W h1 h2 (by omega) h3 h4
    unfold Got6 at this
    rw [hQE, hQ, hEX] at this
    exact this
  have KI : Hid (∀ W, Calls Try.prog 20 #[.int .i64 pr] W fun e w' => e = .returned (.bool true) ∧ w' = W) := fun W => by
    have := isExt_any pr W
    rw [hext] at this
    exact this
  have KL : Hid _ := alive6_any
  obtain ⟨W1, hW1⟩ : ∃ W1, w.alloc (.cells #[.int .i64 f, .int .i64 sf, .int .u64 sh, .int .u64 sl, .int .i64 df, .int .u64 dh, .int .u64 dl, .int .i64 pr, .int .i64 ho, .bool fg, .int .u32 id, .int .i64 of, .bool mo, .slice xa X.length xc, .slice da dat.length dc] 38) = W1 := ⟨_, rfl⟩
  have b1 := bel_nw hW1
  have P1 := blk_nw hW1
  clear hL hm hQE hQ hEX hext lL
  go_enter Try.func6, Try.ntmps6
  go_wp2_with (refine wpList_load_row rfl _ _ rfl w.heap.size (by rfl) _ _ _ _ P1 Try.underlying38 rfl (by kernel_rfl) ?_)
  refine Calls.mono (KA.out _ (hx.below b1) (hdr.below b1)) ?_
  rintro e W2 ⟨a2, c2, rfl, f2⟩
  have P2 := P1.kept f2.below
  have b2 := bel_tr b1 f2.below
  have cm2 := f2.owns.cap_le
  have r2 := f2.row
  have n2 := f2.nil
  have m2 := f2.room
  clear KA f2 P1 b1 hW1
  go_wp2_with fail
  refine Calls.mono (KQ.out _ _ _ r2 n2 m2 cm2) ?_
  rintro e W3 ⟨a3, c3, ya, yc, rfl, f3, x3, l8⟩
  have P3 := P2.kept f3.below
  have b3 := bel_tr b2 f3.below
  have D3 := f3.row
  have X3 := x3.row (by omega)
  clear KQ f3 P2 b2 x3 r2 n2 m2 cm2
  obtain ⟨W4, hW4⟩ : ∃ W, W3.alloc (.cells #[.int .i64 0, .int .i64 0, .int .u64 0, .int .u64 0, .int .i64 0, .int .u64 0, .int .u64 0, .int .i64 0, .int .i64 0, .bool false, .int .u32 0, .int .i64 0, .bool false, .slice none 0 0, .slice none 0 0] 38) = W := ⟨_, rfl⟩
  have P4 := P3.al hW4
  have b4 := bel_al b3 hW4
  have Q4 := blk_nw hW4
  have e4 := bel_nw hW4
  have g3 : w.heap.size < W3.heap.size := P3.lt
  have P5 := P4.other (show w.heap.size ≠ W3.heap.size by omega) #[.int .i64 qf, .int .i64 qsf, .int .u64 qsh, .int .u64 qsl, .int .i64 qdf, .int .u64 qdh, .int .u64 qdl, .int .i64 qpr, .int .i64 qho, .bool qfg, .int .u32 qid, .int .i64 qof, .bool qmo, .slice ya EX.length yc, .slice a3 QD.length c3]
  have Q5 := Q4.set #[.int .i64 qf, .int .i64 qsf, .int .u64 qsh, .int .u64 qsl, .int .i64 qdf, .int .u64 qdh, .int .u64 qdl, .int .i64 qpr, .int .i64 qho, .bool qfg, .int .u32 qid, .int .i64 qof, .bool qmo, .slice ya EX.length yc, .slice a3 QD.length c3]
  have b5 := below_setRow b4 (Nat.le_of_lt g3) #[.int .i64 qf, .int .i64 qsf, .int .u64 qsh, .int .u64 qsl, .int .i64 qdf, .int .u64 qdh, .int .u64 qdl, .int .i64 qpr, .int .i64 qho, .bool qfg, .int .u32 qid, .int .i64 qof, .bool qmo, .slice ya EX.length yc, .slice a3 QD.length c3]
  have e5 := below_setRow e4 (Nat.le_refl _) #[.int .i64 qf, .int .i64 qsf, .int .u64 qsh, .int .u64 qsl, .int .i64 qdf, .int .u64 qdh, .int .u64 qdl, .int .i64 qpr, .int .i64 qho, .bool qfg, .int .u32 qid, .int .i64 qof, .bool qmo, .slice ya EX.length yc, .slice a3 QD.length c3]
  obtain ⟨W5, hW5⟩ : ∃ W, W4.setRow W3.heap.size #[.int .i64 qf, .int .i64 qsf, .int .u64 qsh, .int .u64 qsl, .int .i64 qdf, .int .u64 qdh, .int .u64 qdl, .int .i64 qpr, .int .i64 qho, .bool qfg, .int .u32 qid, .int .i64 qof, .bool qmo, .slice ya EX.length yc, .slice a3 QD.length c3] = W := ⟨_, rfl⟩
  rw [hW5] at P5 Q5 b5 e5
  have HW5 : Hid _ := hW5
  have D5 := D3.below e5
  have X5 := X3.below e5
  clear hW5 e4 e5 D3 X3
  have d7 := P5.cell 7 (.int .i64 pr) rfl
  go_wp2_with (refine wpList_store_row rfl _ _ _ rfl W3.heap.size #[.int .i64 qf, .int .i64 qsf, .int .u64 qsh, .int .u64 qsl, .int .i64 qdf, .int .u64 qdh, .int .u64 qdl, .int .i64 qpr, .int .i64 qho, .bool qfg, .int .u32 qid, .int .i64 qof, .bool qmo, .slice ya EX.length yc, .slice a3 QD.length c3] (by rfl) (by rfl) _ _ Q4 (by kernel_rfl) (by rfl) (by kernel_rfl) ?_; rw [HW5.out])
  refine Calls.mono (KI.out _) ?_
  rintro e W6 ⟨rfl, hW6⟩
  rw [hW6]
  clear hW6 W6 KI HW5 hW4 P4 Q4 b4 P3 b3 d7
  clear P5 Q5 D5 X5
  go_wp2_with fail
  refine Calls.mono (KL.out _) ?_
  rintro e W9 ⟨rfl, bb⟩
  have b9 := bel_tr b5 bb
  clear bb KL
  go_wp2
  go_ret
  exact ⟨rfl, b9⟩
set_option maxRecDepth 100000 in
set_option maxHeartbeats 4000000 in
theorem ip6Back_wh (f sf sh sl df dh dl pr ho : Int) (id of : Int) (mo : Bool) (xa : Option Addr) (xc : Nat) (X : List Int) (da : Option Addr) (dat : List Int) (dc : Nat) (w : World) (hx : RowI w xa X) (hdr : Row w da dat) (hdc : dat.length ≤ dc) (hdm : dc ≤ 140737488351232) (hdn : da = none → dc = 0) (hsrc : Ad.ok ⟨sf, sh, sl⟩) (hdst : Ad.ok ⟨df, dh, dl⟩) (hid : 0 ≤ id ∧ id ≤ 4294967295) (hof : -9223372036854775808 ≤ of ∧ of ≤ 9223372036854775807) (hm : may6 f sf df pr ho true X of mo dat.length = true) (hext : isExt pr = false) (hof0 : of = 0) (hwh : whole pr dat = false) :
    Calls Try.prog 6 #[.agg #[.int .i64 f, .int .i64 sf, .int .u64 sh, .int .u64 sl, .int .i64 df, .int .u64 dh, .int .u64 dl, .int .i64 pr, .int .i64 ho, .bool true, .int .u32 id, .int .i64 of, .bool mo, .slice xa X.length xc, .slice da dat.length dc]] w fun e w' => e = .returned (.bool true) ∧ Below w.heap.size w w' := by
  have HO : Hid (of = 0) := hof0
  clear hof0
  obtain ⟨L, hL⟩ : ∃ L, build6 f ⟨sf, sh, sl⟩ ⟨df, dh, dl⟩ pr ho true id of mo X dat = L := ⟨_, rfl⟩
  have KA : Hid (∀ W, RowI W xa X → Row W da dat → Calls Try.prog 18 #[.agg #[.int .i64 f, .int .i64 sf, .int .u64 sh, .int .u64 sl, .int .i64 df, .int .u64 dh, .int .u64 dl, .int .i64 pr, .int .i64 ho, .bool true, .int .u32 id, .int .i64 of, .bool mo, .slice xa X.length xc, .slice da dat.length dc]] W fun e w' => ∃ a c, e = .returned (.tuple #[.slice a L.length c, .int .i64 0]) ∧ Fresh W w' a c L) := fun W h1 h2 => by
    have := build6_any f sf sh sl df dh dl pr ho true id of mo xa xc X da dat dc W h1 h2 hdn hsrc hdst hid hof
    rw [hm, hL] at this
    exact this
  have lL := build6_len f ⟨sf, sh, sl⟩ ⟨df, dh, dl⟩ pr ho true id of mo X dat hm
  rw [hL] at lL
  obtain ⟨QE, hQE⟩ : ∃ E, perr6 L = E := ⟨_, rfl⟩
  obtain ⟨⟨qf, ⟨qsf, qsh, qsl⟩, ⟨qdf, qdh, qdl⟩, qpr, qho, qfg, qid, qof, qmo, QD⟩, hQ⟩ : ∃ P, parsed6 L = P := ⟨_, rfl⟩
  obtain ⟨EX, hEX⟩ : ∃ X, exts6 L = X := ⟨_, rfl⟩
  have KQ : Hid (∀ W a c, Row W a L → (a = none → c = 0) → L.length ≤ c → c ≤ 9223372036854775807 → Calls Try.prog 15 #[.slice a L.length c] W fun e w' => ∃ a3 c3 ya yc, e = .returned (.tuple #[.agg #[.int .i64 qf, .int .i64 qsf, .int .u64 qsh, .int .u64 qsl, .int .i64 qdf, .int .u64 qdh, .int .u64 qdl, .int .i64 qpr, .int .i64 qho, .bool qfg, .int .u32 qid, .int .i64 qof, .bool qmo, .slice ya EX.length yc, .slice a3 QD.length c3], .int .i64 QE]) ∧ Fresh W w' a3 c3 QD ∧ OwnsI w' W.heap.size (.slice ya EX.length yc) EX ∧ EX.length ≤ 8) := fun W a c h1 h2 h3 h4 => by
    have := parse6_any a c L W h1 h2 (by omega) h3 h4
    unfold Got6 at this
    rw [hQE, hQ, hEX] at this
    exact this
  have KI : Hid (∀ W, Calls Try.prog 20 #[.int .i64 pr] W fun e w' => e = .returned (.bool false) ∧ w' = W) := fun W => by
    have := isExt_any pr W
    rw [hext] at this
    exact this
  have KWh : Hid (∀ W, Row W da dat → Calls Try.prog 21 #[.int .i64 pr, .slice da dat.length dc] W fun e w' => e = .returned (.bool false) ∧ Below W.heap.size W w') := fun W hW => by
    have := rwhole_any pr da dc dat W hW hdc (by omega) hdn
    rw [hwh] at this
    exact this
  have KL : Hid _ := alive6_any
  obtain ⟨W1, hW1⟩ : ∃ W1, w.alloc (.cells #[.int .i64 f, .int .i64 sf, .int .u64 sh, .int .u64 sl, .int .i64 df, .int .u64 dh, .int .u64 dl, .int .i64 pr, .int .i64 ho, .bool true, .int .u32 id, .int .i64 of, .bool mo, .slice xa X.length xc, .slice da dat.length dc] 38) = W1 := ⟨_, rfl⟩
  have b1 := bel_nw hW1
  have P1 := blk_nw hW1
  clear hL hm hQE hQ hEX hext lL hwh
  go_enter Try.func6, Try.ntmps6
  go_wp2_with (refine wpList_load_row rfl _ _ rfl w.heap.size (by rfl) _ _ _ _ P1 Try.underlying38 rfl (by kernel_rfl) ?_)
  refine Calls.mono (KA.out _ (hx.below b1) (hdr.below b1)) ?_
  rintro e W2 ⟨a2, c2, rfl, f2⟩
  have P2 := P1.kept f2.below
  have b2 := bel_tr b1 f2.below
  have cm2 := f2.owns.cap_le
  have r2 := f2.row
  have n2 := f2.nil
  have m2 := f2.room
  clear KA f2 P1 b1 hW1
  go_wp2_with fail
  refine Calls.mono (KQ.out _ _ _ r2 n2 m2 cm2) ?_
  rintro e W3 ⟨a3, c3, ya, yc, rfl, f3, x3, l8⟩
  have P3 := P2.kept f3.below
  have b3 := bel_tr b2 f3.below
  have D3 := f3.row
  have X3 := x3.row (by omega)
  clear KQ f3 P2 b2 x3 r2 n2 m2 cm2
  obtain ⟨W4, hW4⟩ : ∃ W, W3.alloc (.cells #[.int .i64 0, .int .i64 0, .int .u64 0, .int .u64 0, .int .i64 0, .int .u64 0, .int .u64 0, .int .i64 0, .int .i64 0, .bool false, .int .u32 0, .int .i64 0, .bool false, .slice none 0 0, .slice none 0 0] 38) = W := ⟨_, rfl⟩
  have P4 := P3.al hW4
  have b4 := bel_al b3 hW4
  have Q4 := blk_nw hW4
  have e4 := bel_nw hW4
  have g3 : w.heap.size < W3.heap.size := P3.lt
  have P5 := P4.other (show w.heap.size ≠ W3.heap.size by omega) #[.int .i64 qf, .int .i64 qsf, .int .u64 qsh, .int .u64 qsl, .int .i64 qdf, .int .u64 qdh, .int .u64 qdl, .int .i64 qpr, .int .i64 qho, .bool qfg, .int .u32 qid, .int .i64 qof, .bool qmo, .slice ya EX.length yc, .slice a3 QD.length c3]
  have Q5 := Q4.set #[.int .i64 qf, .int .i64 qsf, .int .u64 qsh, .int .u64 qsl, .int .i64 qdf, .int .u64 qdh, .int .u64 qdl, .int .i64 qpr, .int .i64 qho, .bool qfg, .int .u32 qid, .int .i64 qof, .bool qmo, .slice ya EX.length yc, .slice a3 QD.length c3]
  have b5 := below_setRow b4 (Nat.le_of_lt g3) #[.int .i64 qf, .int .i64 qsf, .int .u64 qsh, .int .u64 qsl, .int .i64 qdf, .int .u64 qdh, .int .u64 qdl, .int .i64 qpr, .int .i64 qho, .bool qfg, .int .u32 qid, .int .i64 qof, .bool qmo, .slice ya EX.length yc, .slice a3 QD.length c3]
  have e5 := below_setRow e4 (Nat.le_refl _) #[.int .i64 qf, .int .i64 qsf, .int .u64 qsh, .int .u64 qsl, .int .i64 qdf, .int .u64 qdh, .int .u64 qdl, .int .i64 qpr, .int .i64 qho, .bool qfg, .int .u32 qid, .int .i64 qof, .bool qmo, .slice ya EX.length yc, .slice a3 QD.length c3]
  obtain ⟨W5, hW5⟩ : ∃ W, W4.setRow W3.heap.size #[.int .i64 qf, .int .i64 qsf, .int .u64 qsh, .int .u64 qsl, .int .i64 qdf, .int .u64 qdh, .int .u64 qdl, .int .i64 qpr, .int .i64 qho, .bool qfg, .int .u32 qid, .int .i64 qof, .bool qmo, .slice ya EX.length yc, .slice a3 QD.length c3] = W := ⟨_, rfl⟩
  rw [hW5] at P5 Q5 b5 e5
  have HW5 : Hid _ := hW5
  have D5 := D3.below e5
  have X5 := X3.below e5
  clear hW5 e4 e5 D3 X3
  have d7 := P5.cell 7 (.int .i64 pr) rfl
  go_wp2_with (refine wpList_store_row rfl _ _ _ rfl W3.heap.size #[.int .i64 qf, .int .i64 qsf, .int .u64 qsh, .int .u64 qsl, .int .i64 qdf, .int .u64 qdh, .int .u64 qdl, .int .i64 qpr, .int .i64 qho, .bool qfg, .int .u32 qid, .int .i64 qof, .bool qmo, .slice ya EX.length yc, .slice a3 QD.length c3] (by rfl) (by rfl) _ _ Q4 (by kernel_rfl) (by rfl) (by kernel_rfl) ?_; rw [HW5.out])
  refine Calls.mono (KI.out _) ?_
  rintro e W6 ⟨rfl, hW6⟩
  rw [hW6]
  clear hW6 W6 KI HW5 hW4 P4 Q4 b4 P3 b3 d7
  have e9 := P5.cell 9 (.bool true) rfl
  have e11 := P5.cell 11 (.int .i64 of) rfl
  have e7 := P5.cell 7 (.int .i64 pr) rfl
  have e14 := P5.cell 14 (.slice da dat.length dc) rfl
  have ho0 : (of == 0) = true := by simpa using HO.out
  clear HO
  go_wp2_with fail
  refine Calls.mono (KWh.out _ (hdr.below b5)) ?_
  rintro e W7 ⟨rfl, bb⟩
  have P7 := P5.kept bb
  have Q7 := Q5.kept bb
  have b7 := bel_tr b5 bb
  have D7 := D5.below bb
  have X7 := X5.below bb
  clear KWh bb P5 Q5 b5 D5 X5 e9 e11 e7 e14
  go_wp2_with fail
  clear P7 Q7 D7 X7
  refine Calls.mono (KL.out _) ?_
  rintro e W9 ⟨rfl, bb⟩
  have b9 := bel_tr b7 bb
  clear bb KL
  go_wp2
  go_ret
  exact ⟨rfl, b9⟩
end Go.Proofs.Ytmnkdogdligckaa
