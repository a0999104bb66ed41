/- Segments: UDP is read. -/
import Derived.Test.YtgdpcomcndidcaaSgqA
namespace Go.Proofs.Ytgdpcomcndidcaa
open Go.RowKit
set_option linter.unusedVariables false
set_option linter.unusedSimpArgs false
abbrev ub0 : Oper := { dst := some 2, op := Op.assign (.tmp 6), type := 62, pos := "parse.go:29", after := #[{ on := 6, ground := Ground.data }, { on := 4, ground := Ground.chain }, { on := 0, ground := Ground.phase }, { on := 1, ground := Ground.phase }, { on := 2, ground := Ground.phase }, { on := 3, ground := Ground.phase }, { on := 4, ground := Ground.phase }, { on := 5, ground := Ground.phase }, { on := 6, ground := Ground.phase }], guard := none }
abbrev ub1 : Oper := { dst := some 6, op := Op.move (.tmp 3), type := 62, pos := "parse.go:29", after := #[{ on := 0, ground := Ground.data }, { on := 1, ground := Ground.data }, { on := 2, ground := Ground.data }, { on := 3, ground := Ground.data }, { on := 4, ground := Ground.data }, { on := 5, ground := Ground.data }], guard := none }
abbrev ub2 : Oper := { dst := none, op := Op.insert 62 (.tmp 3) (.tmp 5) (.func 58), type := 0, pos := "parse.go:29", after := #[{ on := 0, ground := Ground.data }, { on := 4, ground := Ground.data }], guard := none }
abbrev ub3 : Oper := { dst := none, op := Op.insert 62 (.tmp 3) (.const (.int .i64 17)) (.func 56), type := 0, pos := "parse.go:29", after := #[{ on := 0, ground := Ground.data }], guard := none }
abbrev ub4 : Oper := { dst := none, op := Op.insert 62 (.tmp 3) (.const (.int .i64 6)) (.func 55), type := 0, pos := "parse.go:29", after := #[{ on := 0, ground := Ground.data }], guard := none }
abbrev ub5 : Oper := { dst := some 5, op := Op.call { callee := Callee.value (.func 57), args := #[.tmp 4], argTypes := #[3] }, type := 3, pos := "parse.go:32", after := #[{ on := 3, ground := Ground.data }], guard := none }
abbrev ub6 : Oper := { dst := some 3, op := Op.assign (.const (.int .i64 0)), type := 39, pos := "parse.go:70", after := #[{ on := 6, ground := Ground.chain }, { on := 0, ground := Ground.phase }, { on := 1, ground := Ground.phase }, { on := 2, ground := Ground.phase }, { on := 3, ground := Ground.phase }, { on := 4, ground := Ground.phase }, { on := 5, ground := Ground.phase }, { on := 6, ground := Ground.phase }], guard := none }
abbrev ub7 : Oper := { dst := none, op := Op.store 38 (.tmp 2) (.tmp 54), type := 0, pos := "parse.go:70", after := #[{ on := 5, ground := Ground.data }, { on := 4, ground := Ground.chain }, { on := 0, ground := Ground.phase }, { on := 1, ground := Ground.phase }, { on := 2, ground := Ground.phase }, { on := 3, ground := Ground.phase }, { on := 4, ground := Ground.phase }, { on := 5, ground := Ground.phase }], guard := none }
abbrev ub8 : Oper := { dst := some 3, op := Op.makeMap 62 none, type := 62, pos := "parse.go:29", after := #[], guard := none }
abbrev ub9 : Oper := { dst := some 53, op := Op.call { callee := Callee.value (.func 72), args := #[.tmp 52], argTypes := #[28] }, type := 28, pos := "parse.go:70", after := #[{ on := 3, ground := Ground.data }, { on := 1, ground := Ground.chain }], guard := none }
abbrev ub12 : Oper := { dst := some 50, op := Op.call { callee := Callee.value (.func 70), args := #[.tmp 49], argTypes := #[64] }, type := 26, pos := "parse.go:70", after := #[{ on := 0, ground := Ground.data }], guard := none }
abbrev ub13 : Oper := { dst := some 54, op := Op.build 38 #[(0, .tmp 50), (9, .tmp 53)], type := 38, pos := "parse.go:70", after := #[{ on := 1, ground := Ground.data }, { on := 4, ground := Ground.data }], guard := none }
abbrev ub14 : Oper := { dst := some 52, op := Op.slice 28 (.tmp 51) (some (.const (.int .i64 8))) none none, type := 28, pos := "parse.go:70", after := #[{ on := 2, ground := Ground.data }], guard := none }
abbrev ub17 : Oper := { dst := some 49, op := Op.load 64 (.tmp 1), type := 64, pos := "parse.go:70", after := #[], guard := none }
abbrev ub18 : Oper := { dst := some 51, op := Op.move (.tmp 5), type := 28, pos := "parse.go:70", after := #[], guard := none }
abbrev ub19 : Oper := { dst := some 4, op := Op.move (.tmp 0), type := 3, pos := "parse.go:29", after := #[], guard := none }

theorem u16v_bd {l : List Int} (hb : M.Bytes l) (x : Int) : 0 ≤ u16v l x ∧ u16v l x ≤ 65535 := by
  unfold u16v
  split
  · exact u16_bd hb x
  · omega
/-- A struct that is built, by one equation. -/
theorem wpList_build {ops : Array Oper} {rest : List Oper} {o : Oper} {ac : Act} {Q : Exit → Act → World → Prop} (w : World) (hgd : o.guard = none) (t : TypeId) (parts : Array (Nat × Operand)) (ho : o.op = Op.build t parts)
    (vs : Array (Nat × Value)) (hv : parts.map (fun p => (p.1, ac.eval p.2)) = vs) (r : Value) (hrun : (Instr.build t vs).run Try.prog w = .ok r w) (h : wpList Try.prog ops Q rest (ac.put o.dst r) w) : wpList Try.prog ops Q (o :: rest) ac w := by
  refine wpList_plain hgd fun K hK => ?_
  unfold Oper.wp
  subst hv
  simp [execOp, ho, hrun, Result.andThen]
  exact hK _ _ h

set_option maxRecDepth 100000 in
set_option maxHeartbeats 4000000 in
theorem udp_e2 (f sf sh sl df dh dl pr ho : Int) (fg : Bool) (id of : Int) (mo : Bool) (xa : Option Addr) (xn xc : Nat) (da : Option Addr) (dc : Nat) (l : List Int) (w : World) (h : Row w da l) (hnil : da = none → dc = 0) (hc : l.length ≤ dc) (hcm : dc ≤ 9223372036854775807) (hs : Ad.ok ⟨sf, sh, sl⟩) (hd : Ad.ok ⟨df, dh, dl⟩) (h8 : l.length < 8) :
    Calls Try.prog 56 #[.agg #[.int .i64 f, .int .i64 sf, .int .u64 sh, .int .u64 sl, .int .i64 df, .int .u64 dh, .int .u64 dl, .int .i64 pr, .int .i64 ho, .bool fg, .int .u32 id, .int .i64 of, .bool mo, .slice xa xn xc, .slice da l.length dc]] w (GotS w 2 zSg) := by
  obtain ⟨W1, hW1⟩ : ∃ W1, w.alloc (.cells #[.int .i64 f, .int .i64 sf, .int .u64 sh, .int .u64 sl, .int .i64 df, .int .u64 dh, .int .u64 dl, .int .i64 pr, .int .i64 ho, .bool fg, .int .u32 id, .int .i64 of, .bool mo, .slice xa xn xc, .slice da l.length dc] 64) = W1 := ⟨_, rfl⟩
  obtain ⟨W2, hW2⟩ : ∃ W2, W1.alloc (.cells #[.int .i64 0, .int .i64 0, .int .i64 0, .int .u64 0, .int .u64 0, .int .i64 0, .int .u64 0, .int .u64 0, .int .i64 0, .int .i64 0, .int .i64 0, .int .u32 0, .int .u32 0, .int .i64 0, .int .i64 0, .int .i64 0, .bool false, .int .i64 0, .int .i64 0, .int .i64 0, .int .u64 0, .int .u64 0, .int .i64 0, .int .u64 0, .int .u64 0, .int .i64 0, .int .i64 0, .slice none 0 0] 38) = W2 := ⟨_, rfl⟩
  have b1 : Below w.heap.size w W1 := by rw [← hW1]; exact (Below.refl _ _).alloc (Nat.le_refl _) _
  have b2 : Below w.heap.size w W2 := by rw [← hW2]; exact b1.alloc b1.size _
  have B1' : Blk W1 w.heap.size 64 #[.int .i64 f, .int .i64 sf, .int .u64 sh, .int .u64 sl, .int .i64 df, .int .u64 dh, .int .u64 dl, .int .i64 pr, .int .i64 ho, .bool fg, .int .u32 id, .int .i64 of, .bool mo, .slice xa xn xc, .slice da l.length dc] := by rw [← hW1]; exact blk_new _ _ _
  have B1 : Blk W2 w.heap.size 64 #[.int .i64 f, .int .i64 sf, .int .u64 sh, .int .u64 sl, .int .i64 df, .int .u64 dh, .int .u64 dl, .int .i64 pr, .int .i64 ho, .bool fg, .int .u32 id, .int .i64 of, .bool mo, .slice xa xn xc, .slice da l.length dc] := by rw [← hW2]; exact B1'.alloc _
  have B2 : Blk W2 W1.heap.size 38 #[.int .i64 0, .int .i64 0, .int .i64 0, .int .u64 0, .int .u64 0, .int .i64 0, .int .u64 0, .int .u64 0, .int .i64 0, .int .i64 0, .int .i64 0, .int .u32 0, .int .u32 0, .int .i64 0, .int .i64 0, .int .i64 0, .bool false, .int .i64 0, .int .i64 0, .int .i64 0, .int .u64 0, .int .u64 0, .int .i64 0, .int .u64 0, .int .u64 0, .int .i64 0, .int .i64 0, .slice none 0 0] := by rw [← hW2]; exact blk_new _ _ _
  have g1 : w.heap.size < W1.heap.size := B1'.lt
  clear B1'
  have d0 := B1.cell 0 (.int .i64 f) rfl
  have d14 := B1.cell 14 (.slice da l.length dc) rfl
  have h8' : (l.length : Int) < 8 := by omega
  have hbz : (Instr.build 38 #[]).run Try.prog W2 = .ok (.agg #[.int .i64 0, .int .i64 0, .int .i64 0, .int .u64 0, .int .u64 0, .int .i64 0, .int .u64 0, .int .u64 0, .int .i64 0, .int .i64 0, .int .i64 0, .int .u32 0, .int .u32 0, .int .i64 0, .int .i64 0, .int .i64 0, .bool false, .int .i64 0, .int .i64 0, .int .i64 0, .int .u64 0, .int .u64 0, .int .i64 0, .int .u64 0, .int .u64 0, .int .i64 0, .int .i64 0, .slice none 0 0]) W2 := by kernel_rfl
  go_enter Try.func56, Try.ntmps56
  have Bf := B2.set #[.int .i64 0, .int .i64 0, .int .i64 0, .int .u64 0, .int .u64 0, .int .i64 0, .int .u64 0, .int .u64 0, .int .i64 0, .int .i64 0, .int .i64 0, .int .u32 0, .int .u32 0, .int .i64 0, .int .i64 0, .int .i64 0, .bool false, .int .i64 0, .int .i64 0, .int .i64 0, .int .u64 0, .int .u64 0, .int .i64 0, .int .u64 0, .int .u64 0, .int .i64 0, .int .i64 0, .slice none 0 0]
  have bf := below_setRow b2 (Nat.le_of_lt g1) #[.int .i64 0, .int .i64 0, .int .i64 0, .int .u64 0, .int .u64 0, .int .i64 0, .int .u64 0, .int .u64 0, .int .i64 0, .int .i64 0, .int .i64 0, .int .u32 0, .int .u32 0, .int .i64 0, .int .i64 0, .int .i64 0, .bool false, .int .i64 0, .int .i64 0, .int .i64 0, .int .u64 0, .int .u64 0, .int .i64 0, .int .u64 0, .int .u64 0, .int .i64 0, .int .i64 0, .slice none 0 0]
  go_wp2_with (first
    | (refine wpList_build _ rfl _ _ rfl _ (by rfl) _ hbz ?_)
    | (refine wpList_store_row rfl _ _ _ rfl W1.heap.size #[.int .i64 0, .int .i64 0, .int .i64 0, .int .u64 0, .int .u64 0, .int .i64 0, .int .u64 0, .int .u64 0, .int .i64 0, .int .i64 0, .int .i64 0, .int .u32 0, .int .u32 0, .int .i64 0, .int .i64 0, .int .i64 0, .bool false, .int .i64 0, .int .i64 0, .int .i64 0, .int .u64 0, .int .u64 0, .int .i64 0, .int .u64 0, .int .u64 0, .int .i64 0, .int .i64 0, .slice none 0 0] (by rfl) (by rfl) _ _ B2 (by kernel_rfl) (by rfl) (by kernel_rfl) ?_))
  exact ret_cell_tmp (k := 2) (j := 3) Try.f56 (by kernel_rfl) Bf Try.underlying38 (by kernel_rfl) (by rfl) (by rfl) rfl ⟨none, 0, rfl, fresh_nil bf⟩

set_option maxRecDepth 100000 in
set_option maxHeartbeats 4000000 in
theorem udp_e5a (f sf sh sl df dh dl pr ho : Int) (fg : Bool) (id of : Int) (mo : Bool) (xa : Option Addr) (xn xc : Nat) (da : Option Addr) (dc : Nat) (l : List Int) (w : World) (h : Row w da l) (hnil : da = none → dc = 0) (hc : l.length ≤ dc) (hcm : dc ≤ 9223372036854775807) (hs : Ad.ok ⟨sf, sh, sl⟩) (hd : Ad.ok ⟨df, dh, dl⟩) (h8 : ¬ l.length < 8) (h5 : u16v l 4 < 8) :
    Calls Try.prog 56 #[.agg #[.int .i64 f, .int .i64 sf, .int .u64 sh, .int .u64 sl, .int .i64 df, .int .u64 dh, .int .u64 dl, .int .i64 pr, .int .i64 ho, .bool fg, .int .u32 id, .int .i64 of, .bool mo, .slice xa xn xc, .slice da l.length dc]] w (GotS w 5 zSg) := by
  obtain ⟨W1, hW1⟩ : ∃ W1, w.alloc (.cells #[.int .i64 f, .int .i64 sf, .int .u64 sh, .int .u64 sl, .int .i64 df, .int .u64 dh, .int .u64 dl, .int .i64 pr, .int .i64 ho, .bool fg, .int .u32 id, .int .i64 of, .bool mo, .slice xa xn xc, .slice da l.length dc] 64) = W1 := ⟨_, rfl⟩
  obtain ⟨W2, hW2⟩ : ∃ W2, W1.alloc (.cells #[.int .i64 0, .int .i64 0, .int .i64 0, .int .u64 0, .int .u64 0, .int .i64 0, .int .u64 0, .int .u64 0, .int .i64 0, .int .i64 0, .int .i64 0, .int .u32 0, .int .u32 0, .int .i64 0, .int .i64 0, .int .i64 0, .bool false, .int .i64 0, .int .i64 0, .int .i64 0, .int .u64 0, .int .u64 0, .int .i64 0, .int .u64 0, .int .u64 0, .int .i64 0, .int .i64 0, .slice none 0 0] 38) = W2 := ⟨_, rfl⟩
  have b1 : Below w.heap.size w W1 := by rw [← hW1]; exact (Below.refl _ _).alloc (Nat.le_refl _) _
  have b2 : Below w.heap.size w W2 := by rw [← hW2]; exact b1.alloc b1.size _
  have B1' : Blk W1 w.heap.size 64 #[.int .i64 f, .int .i64 sf, .int .u64 sh, .int .u64 sl, .int .i64 df, .int .u64 dh, .int .u64 dl, .int .i64 pr, .int .i64 ho, .bool fg, .int .u32 id, .int .i64 of, .bool mo, .slice xa xn xc, .slice da l.length dc] := by rw [← hW1]; exact blk_new _ _ _
  have B1 : Blk W2 w.heap.size 64 #[.int .i64 f, .int .i64 sf, .int .u64 sh, .int .u64 sl, .int .i64 df, .int .u64 dh, .int .u64 dl, .int .i64 pr, .int .i64 ho, .bool fg, .int .u32 id, .int .i64 of, .bool mo, .slice xa xn xc, .slice da l.length dc] := by rw [← hW2]; exact B1'.alloc _
  have B2 : Blk W2 W1.heap.size 38 #[.int .i64 0, .int .i64 0, .int .i64 0, .int .u64 0, .int .u64 0, .int .i64 0, .int .u64 0, .int .u64 0, .int .i64 0, .int .i64 0, .int .i64 0, .int .u32 0, .int .u32 0, .int .i64 0, .int .i64 0, .int .i64 0, .bool false, .int .i64 0, .int .i64 0, .int .i64 0, .int .u64 0, .int .u64 0, .int .i64 0, .int .u64 0, .int .u64 0, .int .i64 0, .int .i64 0, .slice none 0 0] := by rw [← hW2]; exact blk_new _ _ _
  have g1 : w.heap.size < W1.heap.size := B1'.lt
  clear B1'
  have d0 := B1.cell 0 (.int .i64 f) rfl
  have d14 := B1.cell 14 (.slice da l.length dc) rfl
  have h8' : ¬ (l.length : Int) < 8 := by omega
  have hnn := u16v_bd h.bytes 4
  obtain ⟨nn, hn⟩ := Int.eq_ofNat_of_zero_le hnn.1
  have K1 := segU16_any da dc l 4 W2 (h.below b2) (by decide)
  rw [hn] at K1
  have K1 : Hid _ := K1
  rw [hn] at h5
  go_enter Try.func56, Try.ntmps56
  go_wp2_with fail
  refine Calls.mono K1.out ?_
  rintro e W3 ⟨rfl, bb⟩
  have b3 : Below w.heap.size w W3 := b2.trans (bb.mono b2.size)
  have B3 := B1.kept bb
  have B3' := B2.kept bb
  have d0 := B3.cell 0 (.int .i64 f) rfl
  have d14 := B3.cell 14 (.slice da l.length dc) rfl
  clear K1 bb B1 B2 b2 hW1 hW2
  have hbz : (Instr.build 38 #[]).run Try.prog W3 = .ok (.agg #[.int .i64 0, .int .i64 0, .int .i64 0, .int .u64 0, .int .u64 0, .int .i64 0, .int .u64 0, .int .u64 0, .int .i64 0, .int .i64 0, .int .i64 0, .int .u32 0, .int .u32 0, .int .i64 0, .int .i64 0, .int .i64 0, .bool false, .int .i64 0, .int .i64 0, .int .i64 0, .int .u64 0, .int .u64 0, .int .i64 0, .int .u64 0, .int .u64 0, .int .i64 0, .int .i64 0, .slice none 0 0]) W3 := by kernel_rfl
  have Bf := B3'.set #[.int .i64 0, .int .i64 0, .int .i64 0, .int .u64 0, .int .u64 0, .int .i64 0, .int .u64 0, .int .u64 0, .int .i64 0, .int .i64 0, .int .i64 0, .int .u32 0, .int .u32 0, .int .i64 0, .int .i64 0, .int .i64 0, .bool false, .int .i64 0, .int .i64 0, .int .i64 0, .int .u64 0, .int .u64 0, .int .i64 0, .int .u64 0, .int .u64 0, .int .i64 0, .int .i64 0, .slice none 0 0]
  have bf := below_setRow b3 (Nat.le_of_lt g1) #[.int .i64 0, .int .i64 0, .int .i64 0, .int .u64 0, .int .u64 0, .int .i64 0, .int .u64 0, .int .u64 0, .int .i64 0, .int .i64 0, .int .i64 0, .int .u32 0, .int .u32 0, .int .i64 0, .int .i64 0, .int .i64 0, .bool false, .int .i64 0, .int .i64 0, .int .i64 0, .int .u64 0, .int .u64 0, .int .i64 0, .int .u64 0, .int .u64 0, .int .i64 0, .int .i64 0, .slice none 0 0]
  go_wp2_with (first
    | (refine wpList_build _ rfl _ _ rfl _ (by rfl) _ hbz ?_)
    | (refine wpList_store_row rfl _ _ _ rfl W1.heap.size #[.int .i64 0, .int .i64 0, .int .i64 0, .int .u64 0, .int .u64 0, .int .i64 0, .int .u64 0, .int .u64 0, .int .i64 0, .int .i64 0, .int .i64 0, .int .u32 0, .int .u32 0, .int .i64 0, .int .i64 0, .int .i64 0, .bool false, .int .i64 0, .int .i64 0, .int .i64 0, .int .u64 0, .int .u64 0, .int .i64 0, .int .u64 0, .int .u64 0, .int .i64 0, .int .i64 0, .slice none 0 0] (by rfl) (by rfl) _ _ B3' (by kernel_rfl) (by rfl) (by kernel_rfl) ?_))
  exact ret_cell_tmp (k := 2) (j := 3) Try.f56 (by kernel_rfl) Bf Try.underlying38 (by kernel_rfl) (by rfl) (by rfl) rfl ⟨none, 0, rfl, fresh_nil bf⟩

set_option maxRecDepth 100000 in
set_option maxHeartbeats 4000000 in
theorem udp_e5b (f sf sh sl df dh dl pr ho : Int) (fg : Bool) (id of : Int) (mo : Bool) (xa : Option Addr) (xn xc : Nat) (da : Option Addr) (dc : Nat) (l : List Int) (w : World) (h : Row w da l) (hnil : da = none → dc = 0) (hc : l.length ≤ dc) (hcm : dc ≤ 9223372036854775807) (hs : Ad.ok ⟨sf, sh, sl⟩) (hd : Ad.ok ⟨df, dh, dl⟩) (h8 : ¬ l.length < 8) (h5 : ¬ u16v l 4 < 8) (h6 : u16v l 4 > (l.length : Int)) :
    Calls Try.prog 56 #[.agg #[.int .i64 f, .int .i64 sf, .int .u64 sh, .int .u64 sl, .int .i64 df, .int .u64 dh, .int .u64 dl, .int .i64 pr, .int .i64 ho, .bool fg, .int .u32 id, .int .i64 of, .bool mo, .slice xa xn xc, .slice da l.length dc]] w (GotS w 5 zSg) := by
  obtain ⟨W1, hW1⟩ : ∃ W1, w.alloc (.cells #[.int .i64 f, .int .i64 sf, .int .u64 sh, .int .u64 sl, .int .i64 df, .int .u64 dh, .int .u64 dl, .int .i64 pr, .int .i64 ho, .bool fg, .int .u32 id, .int .i64 of, .bool mo, .slice xa xn xc, .slice da l.length dc] 64) = W1 := ⟨_, rfl⟩
  obtain ⟨W2, hW2⟩ : ∃ W2, W1.alloc (.cells #[.int .i64 0, .int .i64 0, .int .i64 0, .int .u64 0, .int .u64 0, .int .i64 0, .int .u64 0, .int .u64 0, .int .i64 0, .int .i64 0, .int .i64 0, .int .u32 0, .int .u32 0, .int .i64 0, .int .i64 0, .int .i64 0, .bool false, .int .i64 0, .int .i64 0, .int .i64 0, .int .u64 0, .int .u64 0, .int .i64 0, .int .u64 0, .int .u64 0, .int .i64 0, .int .i64 0, .slice none 0 0] 38) = W2 := ⟨_, rfl⟩
  have b1 : Below w.heap.size w W1 := by rw [← hW1]; exact (Below.refl _ _).alloc (Nat.le_refl _) _
  have b2 : Below w.heap.size w W2 := by rw [← hW2]; exact b1.alloc b1.size _
  have B1' : Blk W1 w.heap.size 64 #[.int .i64 f, .int .i64 sf, .int .u64 sh, .int .u64 sl, .int .i64 df, .int .u64 dh, .int .u64 dl, .int .i64 pr, .int .i64 ho, .bool fg, .int .u32 id, .int .i64 of, .bool mo, .slice xa xn xc, .slice da l.length dc] := by rw [← hW1]; exact blk_new _ _ _
  have B1 : Blk W2 w.heap.size 64 #[.int .i64 f, .int .i64 sf, .int .u64 sh, .int .u64 sl, .int .i64 df, .int .u64 dh, .int .u64 dl, .int .i64 pr, .int .i64 ho, .bool fg, .int .u32 id, .int .i64 of, .bool mo, .slice xa xn xc, .slice da l.length dc] := by rw [← hW2]; exact B1'.alloc _
  have B2 : Blk W2 W1.heap.size 38 #[.int .i64 0, .int .i64 0, .int .i64 0, .int .u64 0, .int .u64 0, .int .i64 0, .int .u64 0, .int .u64 0, .int .i64 0, .int .i64 0, .int .i64 0, .int .u32 0, .int .u32 0, .int .i64 0, .int .i64 0, .int .i64 0, .bool false, .int .i64 0, .int .i64 0, .int .i64 0, .int .u64 0, .int .u64 0, .int .i64 0, .int .u64 0, .int .u64 0, .int .i64 0, .int .i64 0, .slice none 0 0] := by rw [← hW2]; exact blk_new _ _ _
  have g1 : w.heap.size < W1.heap.size := B1'.lt
  clear B1'
  have d0 := B1.cell 0 (.int .i64 f) rfl
  have d14 := B1.cell 14 (.slice da l.length dc) rfl
  have h8' : ¬ (l.length : Int) < 8 := by omega
  have hnn := u16v_bd h.bytes 4
  obtain ⟨nn, hn⟩ := Int.eq_ofNat_of_zero_le hnn.1
  have K1 := segU16_any da dc l 4 W2 (h.below b2) (by decide)
  rw [hn] at K1
  have K1 : Hid _ := K1
  rw [hn] at h5 h6
  go_enter Try.func56, Try.ntmps56
  go_wp2_with fail
  refine Calls.mono K1.out ?_
  rintro e W3 ⟨rfl, bb⟩
  have b3 : Below w.heap.size w W3 := b2.trans (bb.mono b2.size)
  have B3 := B1.kept bb
  have B3' := B2.kept bb
  have d0 := B3.cell 0 (.int .i64 f) rfl
  have d14 := B3.cell 14 (.slice da l.length dc) rfl
  clear K1 bb B1 B2 b2 hW1 hW2
  have hbz : (Instr.build 38 #[]).run Try.prog W3 = .ok (.agg #[.int .i64 0, .int .i64 0, .int .i64 0, .int .u64 0, .int .u64 0, .int .i64 0, .int .u64 0, .int .u64 0, .int .i64 0, .int .i64 0, .int .i64 0, .int .u32 0, .int .u32 0, .int .i64 0, .int .i64 0, .int .i64 0, .bool false, .int .i64 0, .int .i64 0, .int .i64 0, .int .u64 0, .int .u64 0, .int .i64 0, .int .u64 0, .int .u64 0, .int .i64 0, .int .i64 0, .slice none 0 0]) W3 := by kernel_rfl
  have Bf := B3'.set #[.int .i64 0, .int .i64 0, .int .i64 0, .int .u64 0, .int .u64 0, .int .i64 0, .int .u64 0, .int .u64 0, .int .i64 0, .int .i64 0, .int .i64 0, .int .u32 0, .int .u32 0, .int .i64 0, .int .i64 0, .int .i64 0, .bool false, .int .i64 0, .int .i64 0, .int .i64 0, .int .u64 0, .int .u64 0, .int .i64 0, .int .u64 0, .int .u64 0, .int .i64 0, .int .i64 0, .slice none 0 0]
  have bf := below_setRow b3 (Nat.le_of_lt g1) #[.int .i64 0, .int .i64 0, .int .i64 0, .int .u64 0, .int .u64 0, .int .i64 0, .int .u64 0, .int .u64 0, .int .i64 0, .int .i64 0, .int .i64 0, .int .u32 0, .int .u32 0, .int .i64 0, .int .i64 0, .int .i64 0, .bool false, .int .i64 0, .int .i64 0, .int .i64 0, .int .u64 0, .int .u64 0, .int .i64 0, .int .u64 0, .int .u64 0, .int .i64 0, .int .i64 0, .slice none 0 0]
  go_wp2_with (first
    | (refine wpList_build _ rfl _ _ rfl _ (by rfl) _ hbz ?_)
    | (refine wpList_store_row rfl _ _ _ rfl W1.heap.size #[.int .i64 0, .int .i64 0, .int .i64 0, .int .u64 0, .int .u64 0, .int .i64 0, .int .u64 0, .int .u64 0, .int .i64 0, .int .i64 0, .int .i64 0, .int .u32 0, .int .u32 0, .int .i64 0, .int .i64 0, .int .i64 0, .bool false, .int .i64 0, .int .i64 0, .int .i64 0, .int .u64 0, .int .u64 0, .int .i64 0, .int .u64 0, .int .u64 0, .int .i64 0, .int .i64 0, .slice none 0 0] (by rfl) (by rfl) _ _ B3' (by kernel_rfl) (by rfl) (by kernel_rfl) ?_))
  exact ret_cell_tmp (k := 2) (j := 3) Try.f56 (by kernel_rfl) Bf Try.underlying38 (by kernel_rfl) (by rfl) (by rfl) rfl ⟨none, 0, rfl, fresh_nil bf⟩

set_option maxRecDepth 100000 in
set_option maxHeartbeats 4000000 in
theorem udp_e6a (f sf sh sl df dh dl pr ho : Int) (fg : Bool) (id of : Int) (mo : Bool) (xa : Option Addr) (xn xc : Nat) (da : Option Addr) (dc : Nat) (l : List Int) (w : World) (h : Row w da l) (hnil : da = none → dc = 0) (hc : l.length ≤ dc) (hcm : dc ≤ 9223372036854775807) (hs : Ad.ok ⟨sf, sh, sl⟩) (hd : Ad.ok ⟨df, dh, dl⟩) (h8 : ¬ l.length < 8) (h5 : ¬ u16v l 4 < 8) (h6 : ¬ u16v l 4 > (l.length : Int)) (hz : u16v (l.take (u16v l 4).toNat) 6 = 0) (h66 : f = 6) :
    Calls Try.prog 56 #[.agg #[.int .i64 f, .int .i64 sf, .int .u64 sh, .int .u64 sl, .int .i64 df, .int .u64 dh, .int .u64 dl, .int .i64 pr, .int .i64 ho, .bool fg, .int .u32 id, .int .i64 of, .bool mo, .slice xa xn xc, .slice da l.length dc]] w (GotS w 6 zSg) := by
  obtain ⟨W1, hW1⟩ : ∃ W1, w.alloc (.cells #[.int .i64 f, .int .i64 sf, .int .u64 sh, .int .u64 sl, .int .i64 df, .int .u64 dh, .int .u64 dl, .int .i64 pr, .int .i64 ho, .bool fg, .int .u32 id, .int .i64 of, .bool mo, .slice xa xn xc, .slice da l.length dc] 64) = W1 := ⟨_, rfl⟩
  obtain ⟨W2, hW2⟩ : ∃ W2, W1.alloc (.cells #[.int .i64 0, .int .i64 0, .int .i64 0, .int .u64 0, .int .u64 0, .int .i64 0, .int .u64 0, .int .u64 0, .int .i64 0, .int .i64 0, .int .i64 0, .int .u32 0, .int .u32 0, .int .i64 0, .int .i64 0, .int .i64 0, .bool false, .int .i64 0, .int .i64 0, .int .i64 0, .int .u64 0, .int .u64 0, .int .i64 0, .int .u64 0, .int .u64 0, .int .i64 0, .int .i64 0, .slice none 0 0] 38) = W2 := ⟨_, rfl⟩
  have b1 : Below w.heap.size w W1 := by rw [← hW1]; exact (Below.refl _ _).alloc (Nat.le_refl _) _
  have b2 : Below w.heap.size w W2 := by rw [← hW2]; exact b1.alloc b1.size _
  have B1' : Blk W1 w.heap.size 64 #[.int .i64 f, .int .i64 sf, .int .u64 sh, .int .u64 sl, .int .i64 df, .int .u64 dh, .int .u64 dl, .int .i64 pr, .int .i64 ho, .bool fg, .int .u32 id, .int .i64 of, .bool mo, .slice xa xn xc, .slice da l.length dc] := by rw [← hW1]; exact blk_new _ _ _
  have B1 : Blk W2 w.heap.size 64 #[.int .i64 f, .int .i64 sf, .int .u64 sh, .int .u64 sl, .int .i64 df, .int .u64 dh, .int .u64 dl, .int .i64 pr, .int .i64 ho, .bool fg, .int .u32 id, .int .i64 of, .bool mo, .slice xa xn xc, .slice da l.length dc] := by rw [← hW2]; exact B1'.alloc _
  have B2 : Blk W2 W1.heap.size 38 #[.int .i64 0, .int .i64 0, .int .i64 0, .int .u64 0, .int .u64 0, .int .i64 0, .int .u64 0, .int .u64 0, .int .i64 0, .int .i64 0, .int .i64 0, .int .u32 0, .int .u32 0, .int .i64 0, .int .i64 0, .int .i64 0, .bool false, .int .i64 0, .int .i64 0, .int .i64 0, .int .u64 0, .int .u64 0, .int .i64 0, .int .u64 0, .int .u64 0, .int .i64 0, .int .i64 0, .slice none 0 0] := by rw [← hW2]; exact blk_new _ _ _
  have g1 : w.heap.size < W1.heap.size := B1'.lt
  clear B1'
  have d0 := B1.cell 0 (.int .i64 f) rfl
  have d14 := B1.cell 14 (.slice da l.length dc) rfl
  have h8' : ¬ (l.length : Int) < 8 := by omega
  have hnn := u16v_bd h.bytes 4
  obtain ⟨nn, hn⟩ := Int.eq_ofNat_of_zero_le hnn.1
  have K1 := segU16_any da dc l 4 W2 (h.below b2) (by decide)
  rw [hn] at K1
  have K1 : Hid _ := K1
  rw [hn] at h5 h6
  have n8 : 8 ≤ nn := by omega
  have nl : nn ≤ l.length := by omega
  have j1 : (0 : Int) ≤ (nn : Int) := by omega
  have j2 : (nn : Int) ≤ (dc : Int) := by omega
  have j3 : nn ≤ dc := by omega
  obtain ⟨b, hb⟩ : ∃ b, l.take nn = b := ⟨_, rfl⟩
  have lb : b.length = nn := by rw [← hb, List.length_take]; omega
  have hnt : (u16v l 4).toNat = nn := by rw [hn]; simp
  rw [hnt, hb] at hz
  have RB : Hid (∀ W, Row W da l → Row W da b) := fun W hW => by rw [← hb]; exact hW.take nn
  obtain ⟨z, hz0⟩ : ∃ z, u16v b 6 = z := ⟨_, rfl⟩
  have K2 : Hid (∀ W, Row W da l → Calls Try.prog 71 #[.slice da nn dc, .int .i64 6] W fun e w' => e = .returned (.int .i64 z) ∧ Below W.heap.size W w') := fun W hW => by
    have := segU16_any da dc b 6 W (RB.out W hW) (by decide)
    rw [hz0, lb] at this
    exact this
  rw [hz0] at hz
  subst hz
  have HB : Hid (l.take nn = b ∧ b.length = nn ∧ (u16v l 4).toNat = nn) := ⟨hb, lb, hnt⟩
  clear hb lb hnt hnn hn
  have f6 : (f == 6) = true := by simpa using h66
  clear h66
  go_enter Try.func56, Try.ntmps56
  go_wp2_with fail
  refine Calls.mono K1.out ?_
  rintro e W3 ⟨rfl, bb⟩
  have b3 : Below w.heap.size w W3 := b2.trans (bb.mono b2.size)
  have B3 := B1.kept bb
  have B3' := B2.kept bb
  have d0 := B3.cell 0 (.int .i64 f) rfl
  have d14 := B3.cell 14 (.slice da l.length dc) rfl
  clear K1 bb B1 B2 b2 hW1 hW2
  go_wp2_with fail
  refine Calls.mono (K2.out _ (h.below b3)) ?_
  rintro e W4 ⟨rfl, bb⟩
  have b4 : Below w.heap.size w W4 := b3.trans (bb.mono b3.size)
  have B4 := B3.kept bb
  have B4' := B3'.kept bb
  clear d0 d14
  have d0 := B4.cell 0 (.int .i64 f) rfl
  clear K2 bb B3 B3' b3
  have hbz : (Instr.build 38 #[]).run Try.prog W4 = .ok (.agg #[.int .i64 0, .int .i64 0, .int .i64 0, .int .u64 0, .int .u64 0, .int .i64 0, .int .u64 0, .int .u64 0, .int .i64 0, .int .i64 0, .int .i64 0, .int .u32 0, .int .u32 0, .int .i64 0, .int .i64 0, .int .i64 0, .bool false, .int .i64 0, .int .i64 0, .int .i64 0, .int .u64 0, .int .u64 0, .int .i64 0, .int .u64 0, .int .u64 0, .int .i64 0, .int .i64 0, .slice none 0 0]) W4 := by kernel_rfl
  have Bf := B4'.set #[.int .i64 0, .int .i64 0, .int .i64 0, .int .u64 0, .int .u64 0, .int .i64 0, .int .u64 0, .int .u64 0, .int .i64 0, .int .i64 0, .int .i64 0, .int .u32 0, .int .u32 0, .int .i64 0, .int .i64 0, .int .i64 0, .bool false, .int .i64 0, .int .i64 0, .int .i64 0, .int .u64 0, .int .u64 0, .int .i64 0, .int .u64 0, .int .u64 0, .int .i64 0, .int .i64 0, .slice none 0 0]
  have bf := below_setRow b4 (Nat.le_of_lt g1) #[.int .i64 0, .int .i64 0, .int .i64 0, .int .u64 0, .int .u64 0, .int .i64 0, .int .u64 0, .int .u64 0, .int .i64 0, .int .i64 0, .int .i64 0, .int .u32 0, .int .u32 0, .int .i64 0, .int .i64 0, .int .i64 0, .bool false, .int .i64 0, .int .i64 0, .int .i64 0, .int .u64 0, .int .u64 0, .int .i64 0, .int .u64 0, .int .u64 0, .int .i64 0, .int .i64 0, .slice none 0 0]
  go_wp2_with (first
    | (refine wpList_build _ rfl _ _ rfl _ (by rfl) _ hbz ?_)
    | (refine wpList_store_row rfl _ _ _ rfl W1.heap.size #[.int .i64 0, .int .i64 0, .int .i64 0, .int .u64 0, .int .u64 0, .int .i64 0, .int .u64 0, .int .u64 0, .int .i64 0, .int .i64 0, .int .i64 0, .int .u32 0, .int .u32 0, .int .i64 0, .int .i64 0, .int .i64 0, .bool false, .int .i64 0, .int .i64 0, .int .i64 0, .int .u64 0, .int .u64 0, .int .i64 0, .int .u64 0, .int .u64 0, .int .i64 0, .int .i64 0, .slice none 0 0] (by rfl) (by rfl) _ _ B4' (by kernel_rfl) (by rfl) (by kernel_rfl) ?_))
  exact ret_cell_tmp (k := 2) (j := 3) Try.f56 (by kernel_rfl) Bf Try.underlying38 (by kernel_rfl) (by rfl) (by rfl) rfl ⟨none, 0, rfl, fresh_nil bf⟩

set_option maxRecDepth 100000 in
set_option maxHeartbeats 4000000 in
theorem udp_e6b (f sf sh sl df dh dl pr ho : Int) (fg : Bool) (id of : Int) (mo : Bool) (xa : Option Addr) (xn xc : Nat) (da : Option Addr) (dc : Nat) (l : List Int) (w : World) (h : Row w da l) (hnil : da = none → dc = 0) (hc : l.length ≤ dc) (hcm : dc ≤ 9223372036854775807) (hs : Ad.ok ⟨sf, sh, sl⟩) (hd : Ad.ok ⟨df, dh, dl⟩) (h8 : ¬ l.length < 8) (h5 : ¬ u16v l 4 < 8) (h6 : ¬ u16v l 4 > (l.length : Int)) (hz : ¬ u16v (l.take (u16v l 4).toNat) 6 = 0) (hsum : sumsB ⟨sf, sh, sl⟩ ⟨df, dh, dl⟩ pr (l.take (u16v l 4).toNat) = false) :
    Calls Try.prog 56 #[.agg #[.int .i64 f, .int .i64 sf, .int .u64 sh, .int .u64 sl, .int .i64 df, .int .u64 dh, .int .u64 dl, .int .i64 pr, .int .i64 ho, .bool fg, .int .u32 id, .int .i64 of, .bool mo, .slice xa xn xc, .slice da l.length dc]] w (GotS w 6 zSg) := by
  obtain ⟨W1, hW1⟩ : ∃ W1, w.alloc (.cells #[.int .i64 f, .int .i64 sf, .int .u64 sh, .int .u64 sl, .int .i64 df, .int .u64 dh, .int .u64 dl, .int .i64 pr, .int .i64 ho, .bool fg, .int .u32 id, .int .i64 of, .bool mo, .slice xa xn xc, .slice da l.length dc] 64) = W1 := ⟨_, rfl⟩
  obtain ⟨W2, hW2⟩ : ∃ W2, W1.alloc (.cells #[.int .i64 0, .int .i64 0, .int .i64 0, .int .u64 0, .int .u64 0, .int .i64 0, .int .u64 0, .int .u64 0, .int .i64 0, .int .i64 0, .int .i64 0, .int .u32 0, .int .u32 0, .int .i64 0, .int .i64 0, .int .i64 0, .bool false, .int .i64 0, .int .i64 0, .int .i64 0, .int .u64 0, .int .u64 0, .int .i64 0, .int .u64 0, .int .u64 0, .int .i64 0, .int .i64 0, .slice none 0 0] 38) = W2 := ⟨_, rfl⟩
  have b1 : Below w.heap.size w W1 := by rw [← hW1]; exact (Below.refl _ _).alloc (Nat.le_refl _) _
  have b2 : Below w.heap.size w W2 := by rw [← hW2]; exact b1.alloc b1.size _
  have B1' : Blk W1 w.heap.size 64 #[.int .i64 f, .int .i64 sf, .int .u64 sh, .int .u64 sl, .int .i64 df, .int .u64 dh, .int .u64 dl, .int .i64 pr, .int .i64 ho, .bool fg, .int .u32 id, .int .i64 of, .bool mo, .slice xa xn xc, .slice da l.length dc] := by rw [← hW1]; exact blk_new _ _ _
  have B1 : Blk W2 w.heap.size 64 #[.int .i64 f, .int .i64 sf, .int .u64 sh, .int .u64 sl, .int .i64 df, .int .u64 dh, .int .u64 dl, .int .i64 pr, .int .i64 ho, .bool fg, .int .u32 id, .int .i64 of, .bool mo, .slice xa xn xc, .slice da l.length dc] := by rw [← hW2]; exact B1'.alloc _
  have B2 : Blk W2 W1.heap.size 38 #[.int .i64 0, .int .i64 0, .int .i64 0, .int .u64 0, .int .u64 0, .int .i64 0, .int .u64 0, .int .u64 0, .int .i64 0, .int .i64 0, .int .i64 0, .int .u32 0, .int .u32 0, .int .i64 0, .int .i64 0, .int .i64 0, .bool false, .int .i64 0, .int .i64 0, .int .i64 0, .int .u64 0, .int .u64 0, .int .i64 0, .int .u64 0, .int .u64 0, .int .i64 0, .int .i64 0, .slice none 0 0] := by rw [← hW2]; exact blk_new _ _ _
  have g1 : w.heap.size < W1.heap.size := B1'.lt
  clear B1'
  have d0 := B1.cell 0 (.int .i64 f) rfl
  have d14 := B1.cell 14 (.slice da l.length dc) rfl
  have h8' : ¬ (l.length : Int) < 8 := by omega
  have hnn := u16v_bd h.bytes 4
  obtain ⟨nn, hn⟩ := Int.eq_ofNat_of_zero_le hnn.1
  have K1 := segU16_any da dc l 4 W2 (h.below b2) (by decide)
  rw [hn] at K1
  have K1 : Hid _ := K1
  rw [hn] at h5 h6
  have n8 : 8 ≤ nn := by omega
  have nl : nn ≤ l.length := by omega
  have j1 : (0 : Int) ≤ (nn : Int) := by omega
  have j2 : (nn : Int) ≤ (dc : Int) := by omega
  have j3 : nn ≤ dc := by omega
  obtain ⟨b, hb⟩ : ∃ b, l.take nn = b := ⟨_, rfl⟩
  have lb : b.length = nn := by rw [← hb, List.length_take]; omega
  have hnt : (u16v l 4).toNat = nn := by rw [hn]; simp
  rw [hnt, hb] at hz
  have RB : Hid (∀ W, Row W da l → Row W da b) := fun W hW => by rw [← hb]; exact hW.take nn
  obtain ⟨z, hz0⟩ : ∃ z, u16v b 6 = z := ⟨_, rfl⟩
  have K2 : Hid (∀ W, Row W da l → Calls Try.prog 71 #[.slice da nn dc, .int .i64 6] W fun e w' => e = .returned (.int .i64 z) ∧ Below W.heap.size W w') := fun W hW => by
    have := segU16_any da dc b 6 W (RB.out W hW) (by decide)
    rw [hz0, lb] at this
    exact this
  rw [hz0] at hz
  rw [hnt, hb] at hsum
  have KS : Hid (∀ W, Row W da l → Calls Try.prog 67 #[.agg #[.int .i64 f, .int .i64 sf, .int .u64 sh, .int .u64 sl, .int .i64 df, .int .u64 dh, .int .u64 dl, .int .i64 pr, .int .i64 ho, .bool fg, .int .u32 id, .int .i64 of, .bool mo, .slice xa xn xc, .slice da l.length dc], .slice da nn dc] W fun e w' => e = .returned (.bool false) ∧ Below W.heap.size W w') := fun W hW => by
    have := sumsUp_any f sf sh sl df dh dl pr ho fg id of mo xa xn xc da dc l da dc b W (RB.out W hW) hs hd
    rw [lb, hsum] at this
    exact this
  have hz' : (z == 0) = false := by simpa using hz
  clear hz hsum
  have HB : Hid (l.take nn = b ∧ b.length = nn ∧ (u16v l 4).toNat = nn) := ⟨hb, lb, hnt⟩
  clear hb lb hnt hnn hn
  go_enter Try.func56, Try.ntmps56
  go_wp2_with fail
  refine Calls.mono K1.out ?_
  rintro e W3 ⟨rfl, bb⟩
  have b3 : Below w.heap.size w W3 := b2.trans (bb.mono b2.size)
  have B3 := B1.kept bb
  have B3' := B2.kept bb
  have d0 := B3.cell 0 (.int .i64 f) rfl
  have d14 := B3.cell 14 (.slice da l.length dc) rfl
  clear K1 bb B1 B2 b2 hW1 hW2
  go_wp2_with fail
  refine Calls.mono (K2.out _ (h.below b3)) ?_
  rintro e W4 ⟨rfl, bb⟩
  have b4 : Below w.heap.size w W4 := b3.trans (bb.mono b3.size)
  have B4 := B3.kept bb
  have B4' := B3'.kept bb
  clear d0 d14
  have d0 := B4.cell 0 (.int .i64 f) rfl
  clear K2 bb B3 B3' b3
  clear d0
  have d0 := B4.cell 0 (.int .i64 f) rfl
  have d1 := B4.cell 1 (.int .i64 sf) rfl
  have d2 := B4.cell 2 (.int .u64 sh) rfl
  have d3 := B4.cell 3 (.int .u64 sl) rfl
  have d4 := B4.cell 4 (.int .i64 df) rfl
  have d5 := B4.cell 5 (.int .u64 dh) rfl
  have d6 := B4.cell 6 (.int .u64 dl) rfl
  have d7 := B4.cell 7 (.int .i64 pr) rfl
  have d8 := B4.cell 8 (.int .i64 ho) rfl
  have d9 := B4.cell 9 (.bool fg) rfl
  have d10 := B4.cell 10 (.int .u32 id) rfl
  have d11 := B4.cell 11 (.int .i64 of) rfl
  have d12 := B4.cell 12 (.bool mo) rfl
  have d13 := B4.cell 13 (.slice xa xn xc) rfl
  have d14 := B4.cell 14 (.slice da l.length dc) rfl
  go_wp2_with fail
  refine Calls.mono (KS.out _ (h.below b4)) ?_
  rintro e W5 ⟨rfl, bb⟩
  have b5 : Below w.heap.size w W5 := b4.trans (bb.mono b4.size)
  have B5 := B4.kept bb
  have B5' := B4'.kept bb
  clear d0 d1 d2 d3 d4 d5 d6 d7 d8 d9 d10 d11 d12 d13 d14 KS bb B4 B4' b4
  have hbz : (Instr.build 38 #[]).run Try.prog W5 = .ok (.agg #[.int .i64 0, .int .i64 0, .int .i64 0, .int .u64 0, .int .u64 0, .int .i64 0, .int .u64 0, .int .u64 0, .int .i64 0, .int .i64 0, .int .i64 0, .int .u32 0, .int .u32 0, .int .i64 0, .int .i64 0, .int .i64 0, .bool false, .int .i64 0, .int .i64 0, .int .i64 0, .int .u64 0, .int .u64 0, .int .i64 0, .int .u64 0, .int .u64 0, .int .i64 0, .int .i64 0, .slice none 0 0]) W5 := by kernel_rfl
  have Bf := B5'.set #[.int .i64 0, .int .i64 0, .int .i64 0, .int .u64 0, .int .u64 0, .int .i64 0, .int .u64 0, .int .u64 0, .int .i64 0, .int .i64 0, .int .i64 0, .int .u32 0, .int .u32 0, .int .i64 0, .int .i64 0, .int .i64 0, .bool false, .int .i64 0, .int .i64 0, .int .i64 0, .int .u64 0, .int .u64 0, .int .i64 0, .int .u64 0, .int .u64 0, .int .i64 0, .int .i64 0, .slice none 0 0]
  have bf := below_setRow b5 (Nat.le_of_lt g1) #[.int .i64 0, .int .i64 0, .int .i64 0, .int .u64 0, .int .u64 0, .int .i64 0, .int .u64 0, .int .u64 0, .int .i64 0, .int .i64 0, .int .i64 0, .int .u32 0, .int .u32 0, .int .i64 0, .int .i64 0, .int .i64 0, .bool false, .int .i64 0, .int .i64 0, .int .i64 0, .int .u64 0, .int .u64 0, .int .i64 0, .int .u64 0, .int .u64 0, .int .i64 0, .int .i64 0, .slice none 0 0]
  go_wp2_with (first
    | (refine wpList_build _ rfl _ _ rfl _ (by rfl) _ hbz ?_)
    | (refine wpList_store_row rfl _ _ _ rfl W1.heap.size #[.int .i64 0, .int .i64 0, .int .i64 0, .int .u64 0, .int .u64 0, .int .i64 0, .int .u64 0, .int .u64 0, .int .i64 0, .int .i64 0, .int .i64 0, .int .u32 0, .int .u32 0, .int .i64 0, .int .i64 0, .int .i64 0, .bool false, .int .i64 0, .int .i64 0, .int .i64 0, .int .u64 0, .int .u64 0, .int .i64 0, .int .u64 0, .int .u64 0, .int .i64 0, .int .i64 0, .slice none 0 0] (by rfl) (by rfl) _ _ B5' (by kernel_rfl) (by rfl) (by kernel_rfl) ?_))
  exact ret_cell_tmp (k := 2) (j := 3) Try.f56 (by kernel_rfl) Bf Try.underlying38 (by kernel_rfl) (by rfl) (by rfl) rfl ⟨none, 0, rfl, fresh_nil bf⟩

end Go.Proofs.Ytgdpcomcndidcaa

namespace Go.Proofs.Ytgdpcomcndidcaa
open Go.RowKit
set_option linter.unusedVariables false
set_option linter.unusedSimpArgs false

set_option maxRecDepth 100000 in
set_option maxHeartbeats 4000000 in
theorem udp_oka (f sf sh sl df dh dl pr ho : Int) (fg : Bool) (id of : Int) (mo : Bool) (xa : Option Addr) (xn xc : Nat) (da : Option Addr) (dc : Nat) (l : List Int) (w : World) (h : Row w da l) (hnil : da = none → dc = 0) (hc : l.length ≤ dc) (hcm : dc ≤ 9223372036854775807) (hs : Ad.ok ⟨sf, sh, sl⟩) (hd : Ad.ok ⟨df, dh, dl⟩) (h8 : ¬ l.length < 8) (h5 : ¬ u16v l 4 < 8) (h6 : ¬ u16v l 4 > (l.length : Int)) (hz : u16v (l.take (u16v l 4).toNat) 6 = 0) (h66 : ¬ f = 6) :
    Calls Try.prog 56 #[.agg #[.int .i64 f, .int .i64 sf, .int .u64 sh, .int .u64 sl, .int .i64 df, .int .u64 dh, .int .u64 dl, .int .i64 pr, .int .i64 ho, .bool fg, .int .u32 id, .int .i64 of, .bool mo, .slice xa xn xc, .slice da l.length dc]] w (GotS w 0 (udpX f pr ⟨sf, sh, sl⟩ ⟨df, dh, dl⟩ l)) := by
  obtain ⟨W1, hW1⟩ : ∃ W1, w.alloc (.cells #[.int .i64 f, .int .i64 sf, .int .u64 sh, .int .u64 sl, .int .i64 df, .int .u64 dh, .int .u64 dl, .int .i64 pr, .int .i64 ho, .bool fg, .int .u32 id, .int .i64 of, .bool mo, .slice xa xn xc, .slice da l.length dc] 64) = W1 := ⟨_, rfl⟩
  obtain ⟨W2, hW2⟩ : ∃ W2, W1.alloc (.cells #[.int .i64 0, .int .i64 0, .int .i64 0, .int .u64 0, .int .u64 0, .int .i64 0, .int .u64 0, .int .u64 0, .int .i64 0, .int .i64 0, .int .i64 0, .int .u32 0, .int .u32 0, .int .i64 0, .int .i64 0, .int .i64 0, .bool false, .int .i64 0, .int .i64 0, .int .i64 0, .int .u64 0, .int .u64 0, .int .i64 0, .int .u64 0, .int .u64 0, .int .i64 0, .int .i64 0, .slice none 0 0] 38) = W2 := ⟨_, rfl⟩
  have b1 : Below w.heap.size w W1 := by rw [← hW1]; exact (Below.refl _ _).alloc (Nat.le_refl _) _
  have b2 : Below w.heap.size w W2 := by rw [← hW2]; exact b1.alloc b1.size _
  have B1' : Blk W1 w.heap.size 64 #[.int .i64 f, .int .i64 sf, .int .u64 sh, .int .u64 sl, .int .i64 df, .int .u64 dh, .int .u64 dl, .int .i64 pr, .int .i64 ho, .bool fg, .int .u32 id, .int .i64 of, .bool mo, .slice xa xn xc, .slice da l.length dc] := by rw [← hW1]; exact blk_new _ _ _
  have B1 : Blk W2 w.heap.size 64 #[.int .i64 f, .int .i64 sf, .int .u64 sh, .int .u64 sl, .int .i64 df, .int .u64 dh, .int .u64 dl, .int .i64 pr, .int .i64 ho, .bool fg, .int .u32 id, .int .i64 of, .bool mo, .slice xa xn xc, .slice da l.length dc] := by rw [← hW2]; exact B1'.alloc _
  have B2 : Blk W2 W1.heap.size 38 #[.int .i64 0, .int .i64 0, .int .i64 0, .int .u64 0, .int .u64 0, .int .i64 0, .int .u64 0, .int .u64 0, .int .i64 0, .int .i64 0, .int .i64 0, .int .u32 0, .int .u32 0, .int .i64 0, .int .i64 0, .int .i64 0, .bool false, .int .i64 0, .int .i64 0, .int .i64 0, .int .u64 0, .int .u64 0, .int .i64 0, .int .u64 0, .int .u64 0, .int .i64 0, .int .i64 0, .slice none 0 0] := by rw [← hW2]; exact blk_new _ _ _
  have g1 : w.heap.size < W1.heap.size := B1'.lt
  clear B1'
  have d0 := B1.cell 0 (.int .i64 f) rfl
  have d14 := B1.cell 14 (.slice da l.length dc) rfl
  have h8' : ¬ (l.length : Int) < 8 := by omega
  have hnn := u16v_bd h.bytes 4
  obtain ⟨nn, hn⟩ := Int.eq_ofNat_of_zero_le hnn.1
  have K1 := segU16_any da dc l 4 W2 (h.below b2) (by decide)
  rw [hn] at K1
  have K1 : Hid _ := K1
  rw [hn] at h5 h6
  have n8 : 8 ≤ nn := by omega
  have nl : nn ≤ l.length := by omega
  have j1 : (0 : Int) ≤ (nn : Int) := by omega
  have j2 : (nn : Int) ≤ (dc : Int) := by omega
  have j3 : nn ≤ dc := by omega
  obtain ⟨b, hb⟩ : ∃ b, l.take nn = b := ⟨_, rfl⟩
  have lb : b.length = nn := by rw [← hb, List.length_take]; omega
  have hnt : (u16v l 4).toNat = nn := by rw [hn]; simp
  rw [hnt, hb] at hz
  have RB : Hid (∀ W, Row W da l → Row W da b) := fun W hW => by rw [← hb]; exact hW.take nn
  obtain ⟨z, hz0⟩ : ∃ z, u16v b 6 = z := ⟨_, rfl⟩
  have K2 : Hid (∀ W, Row W da l → Calls Try.prog 71 #[.slice da nn dc, .int .i64 6] W fun e w' => e = .returned (.int .i64 z) ∧ Below W.heap.size W w') := fun W hW => by
    have := segU16_any da dc b 6 W (RB.out W hW) (by decide)
    rw [hz0, lb] at this
    exact this
  obtain ⟨a3, ha3⟩ : ∃ a3, (if dc = 8 then da else da.map (fun x => x.add 8)) = a3 := ⟨_, rfl⟩
  have H3 : Hid ((if dc = 8 then da else Option.map (fun x => { block := x.block, off := x.off + 8 }) da) = a3) := by
    obtain ⟨bk, off, e, _⟩ := h.cells (by omega)
    have : (if dc = 8 then da else Option.map (fun x => { block := x.block, off := x.off + 8 }) da) = a3 := by
      rw [← ha3, e]
      simp [Go.WideShapes.add_plain]
    exact this
  obtain ⟨D, hD⟩ : ∃ D, b.drop 8 = D := ⟨_, rfl⟩
  have lD : D.length = nn - 8 := by rw [← hD, List.length_drop, lb]
  have KC : Hid (∀ W, Row W da l → Calls Try.prog 72 #[.slice a3 (nn - 8) (dc - 8)] W fun e w' => ∃ a' c', e = .returned (.slice a' D.length c') ∧ Fresh W w' a' c' D) := fun W hW => by
    have hr := (RB.out W hW).drop dc 8 (by omega)
    rw [ha3, hD] at hr
    have := clone_any a3 (dc - 8) D W hr (fun e => by
      rw [e] at ha3
      split at ha3
      · omega
      · have : da = none := by simpa using ha3
        have := hnil this
        omega)
    rw [lD] at this ⊢
    exact this
  obtain ⟨V, hV⟩ : ∃ V, portsOf f pr l = V := ⟨_, rfl⟩
  have KW : Hid (∀ W, Row W da l → Calls Try.prog 70 #[.agg #[.int .i64 f, .int .i64 sf, .int .u64 sh, .int .u64 sl, .int .i64 df, .int .u64 dh, .int .u64 dl, .int .i64 pr, .int .i64 ho, .bool fg, .int .u32 id, .int .i64 of, .bool mo, .slice xa xn xc, .slice da l.length dc]] W fun e w' => e = .returned (.agg #[.int .i64 f, .int .i64 pr, .int .i64 sf, .int .u64 sh, .int .u64 sl, .int .i64 df, .int .u64 dh, .int .u64 dl, .int .i64 V.1, .int .i64 V.2]) ∧ Below W.heap.size W w') := fun W hW => by
    have := way_any f sf sh sl df dh dl pr ho fg id of mo xa xn xc da dc l W hW (by omega)
    rw [hV] at this
    exact this
  have e : udpX f pr ⟨sf, sh, sl⟩ ⟨df, dh, dl⟩ l = ⟨⟨f, pr, ⟨sf, sh, sl⟩, ⟨df, dh, dl⟩, V.1, V.2⟩, 0, 0, 0, 0, 0, 0, false, zTp, D⟩ := by
    unfold udpX endT
    rw [hV, hnt, hb, hD]
  rw [e]
  have HD : Hid (D.length = nn - 8) := lD
  have j8 : (8 : Int) ≤ (nn : Int) := by omega
  have j9 : 8 ≤ nn := by omega
  clear e hV hD lD ha3
  rw [hz0] at hz
  subst hz
  have HB : Hid (l.take nn = b ∧ b.length = nn ∧ (u16v l 4).toNat = nn) := ⟨hb, lb, hnt⟩
  clear hb lb hnt hnn hn
  have f6 : (f == 6) = false := by simpa using h66
  clear h66
  go_enter Try.func56, Try.ntmps56
  go_wp2_with fail
  refine Calls.mono K1.out ?_
  rintro e W3 ⟨rfl, bb⟩
  have b3 : Below w.heap.size w W3 := b2.trans (bb.mono b2.size)
  have B3 := B1.kept bb
  have B3' := B2.kept bb
  have d0 := B3.cell 0 (.int .i64 f) rfl
  have d14 := B3.cell 14 (.slice da l.length dc) rfl
  clear K1 bb B1 B2 b2 hW1 hW2
  go_wp2_with fail
  refine Calls.mono (K2.out _ (h.below b3)) ?_
  rintro e W4 ⟨rfl, bb⟩
  have b4 : Below w.heap.size w W4 := b3.trans (bb.mono b3.size)
  have B4 := B3.kept bb
  have B4' := B3'.kept bb
  clear d0 d14
  have d0 := B4.cell 0 (.int .i64 f) rfl
  clear K2 bb B3 B3' b3
  go_wp2_with fail
  refine wp_region_noPanic ?_
  refine wp_region_held_drew (S := fun w' => Blk w' w.heap.size 64 #[.int .i64 f, .int .i64 sf, .int .u64 sh, .int .u64 sl, .int .i64 df, .int .u64 dh, .int .u64 dl, .int .i64 pr, .int .i64 ho, .bool fg, .int .u32 id, .int .i64 of, .bool mo, .slice xa xn xc, .slice da l.length dc]) (by kernel_rfl) (by exact B4.drew) (fun hHeld => ?_)
  refine wpAnyH_take (i := 0) (oi := ub17) (v := (.agg #[.int .i64 f, .int .i64 sf, .int .u64 sh, .int .u64 sl, .int .i64 df, .int .u64 dh, .int .u64 dl, .int .i64 pr, .int .i64 ho, .bool fg, .int .u32 id, .int .i64 of, .bool mo, .slice xa xn xc, .slice da l.length dc])) rfl (by kernel_rfl) (by kernel_rfl) (by kernel_rfl) (fun _ _ _ h => h) (yieldsIf_blk rfl _ _ rfl w.heap.size (by rfl) _ (fun _ hSw => hSw) Try.underlying64 (by kernel_rfl)) hHeld ?_
  try simp only [Act.put, List.setIfInBounds_toArray, List.set_cons_zero, List.set_cons_succ]
  refine wpAnyH_take (i := 2) (oi := ub18) (v := (.slice da nn dc)) rfl (by kernel_rfl) (by kernel_rfl) (by kernel_rfl) (fun _ _ _ h => h) (Or.inl ⟨by rfl, ?_⟩) hHeld ?_
  · intro w9 hSw
    try dsimp only at hSw
    go_simp
  try simp only [Act.put, List.setIfInBounds_toArray, List.set_cons_zero, List.set_cons_succ]
  refine wpAnyH_take (i := 3) (oi := ub14) (v := (.slice a3 (nn - 8) (dc - 8))) rfl (by kernel_rfl) (by kernel_rfl) (by kernel_rfl) (fun _ _ _ h => h) (Or.inl ⟨by rfl, ?_⟩) hHeld ?_
  · intro w9 hSw
    try dsimp only at hSw
    go_simp
    exact H3.out
  try simp only [Act.put, List.setIfInBounds_toArray, List.set_cons_zero, List.set_cons_succ]
  refine wpAnyH_ready (rs := [1]) (by kernel_rfl) (by simp) ?_
  refine AllReadyH.cons (o := ub12) rfl (fun K hK => ?_) AllReadyH.nil
  go_simp
  refine Calls.mono (KW.out _ (h.below b4.drew)) ?_
  rintro e W6 ⟨rfl, bb⟩
  have B6 := B4.drew.kept bb
  have B6' := B4'.drew.kept bb
  have b6 : Below w.heap.size w W6 := b4.drew.trans (bb.mono b4.drew.size)
  refine hK.out _ _ ?_ (fun hHeld => ?_)
  · exact B6
  clear hK K
  try simp only [Act.put, List.setIfInBounds_toArray, List.set_cons_zero, List.set_cons_succ]
  refine wpAnyH_ready (rs := [4]) (by kernel_rfl) (by simp) ?_
  refine AllReadyH.cons (o := ub9) rfl (fun K hK => ?_) AllReadyH.nil
  go_simp
  refine Calls.mono (KC.out _ (h.below b6)) ?_
  rintro e W7 ⟨a7, c7, rfl, f7⟩
  have B7 := B6.kept f7.below
  have B7' := B6'.kept f7.below
  have b7 : Below w.heap.size w W7 := b6.trans (f7.below.mono b6.size)
  refine hK.out _ _ ?_ (fun hHeld => ?_)
  · exact B7
  clear hK K
  try simp only [Act.put, List.setIfInBounds_toArray, List.set_cons_zero, List.set_cons_succ]
  refine wpAnyH_take (i := 5) (oi := ub13) (v := (.agg #[.int .i64 f, .int .i64 pr, .int .i64 sf, .int .u64 sh, .int .u64 sl, .int .i64 df, .int .u64 dh, .int .u64 dl, .int .i64 V.1, .int .i64 V.2, .int .i64 0, .int .u32 0, .int .u32 0, .int .i64 0, .int .i64 0, .int .i64 0, .bool false, .int .i64 0, .int .i64 0, .int .i64 0, .int .u64 0, .int .u64 0, .int .i64 0, .int .u64 0, .int .u64 0, .int .i64 0, .int .i64 0, .slice a7 D.length c7])) rfl (by kernel_rfl) (by kernel_rfl) (by kernel_rfl) (fun _ _ _ h => h) (yieldsIf_build rfl _ _ rfl #[(0, .agg #[.int .i64 f, .int .i64 pr, .int .i64 sf, .int .u64 sh, .int .u64 sl, .int .i64 df, .int .u64 dh, .int .u64 dl, .int .i64 V.1, .int .i64 V.2]), (9, .slice a7 D.length c7)] (by kernel_rfl) _ (fun w9 => by kernel_rfl)) hHeld ?_
  try simp only [Act.put, List.setIfInBounds_toArray, List.set_cons_zero, List.set_cons_succ]
  refine wpAnyH_ready (rs := [6]) (by kernel_rfl) (by simp) ?_
  refine AllReadyH.cons (o := ub7) rfl (fun K hK => ?_) AllReadyH.nil
  refine step_store_blk rfl _ _ _ rfl W1.heap.size #[.int .i64 f, .int .i64 pr, .int .i64 sf, .int .u64 sh, .int .u64 sl, .int .i64 df, .int .u64 dh, .int .u64 dl, .int .i64 V.1, .int .i64 V.2, .int .i64 0, .int .u32 0, .int .u32 0, .int .i64 0, .int .i64 0, .int .i64 0, .bool false, .int .i64 0, .int .i64 0, .int .i64 0, .int .u64 0, .int .u64 0, .int .i64 0, .int .u64 0, .int .u64 0, .int .i64 0, .int .i64 0, .slice a7 D.length c7] _ (by kernel_rfl) (by kernel_rfl) B7' (by kernel_rfl) (by rfl) (by kernel_rfl) ?_
  refine hK.out _ _ ?_ (fun hHeld => ?_)
  · exact B7.other (by omega) _
  clear hK K
  try simp only [Act.put, List.setIfInBounds_toArray, List.set_cons_zero, List.set_cons_succ]
  refine wpAnyH_take (i := 7) (oi := ub6) (v := (.int .i64 0)) rfl (by kernel_rfl) (by kernel_rfl) (by kernel_rfl) (fun _ _ _ h => h) (Or.inl ⟨by rfl, ?_⟩) hHeld ?_
  · intro w9 hSw
    try dsimp only at hSw
    go_simp
  try simp only [Act.put, List.setIfInBounds_toArray, List.set_cons_zero, List.set_cons_succ]
  refine wpAnyH_done (by kernel_rfl) ?_ _
  refine NoPanic.normal ?_
  have Bf := B7'.set #[.int .i64 f, .int .i64 pr, .int .i64 sf, .int .u64 sh, .int .u64 sl, .int .i64 df, .int .u64 dh, .int .u64 dl, .int .i64 V.1, .int .i64 V.2, .int .i64 0, .int .u32 0, .int .u32 0, .int .i64 0, .int .i64 0, .int .i64 0, .bool false, .int .i64 0, .int .i64 0, .int .i64 0, .int .u64 0, .int .u64 0, .int .i64 0, .int .u64 0, .int .u64 0, .int .i64 0, .int .i64 0, .slice a7 D.length c7]
  have bf := below_setRow b7 (Nat.le_of_lt g1) #[.int .i64 f, .int .i64 pr, .int .i64 sf, .int .u64 sh, .int .u64 sl, .int .i64 df, .int .u64 dh, .int .u64 dl, .int .i64 V.1, .int .i64 V.2, .int .i64 0, .int .u32 0, .int .u32 0, .int .i64 0, .int .i64 0, .int .i64 0, .bool false, .int .i64 0, .int .i64 0, .int .i64 0, .int .u64 0, .int .u64 0, .int .i64 0, .int .u64 0, .int .u64 0, .int .i64 0, .int .i64 0, .slice a7 D.length c7]
  have oo := (owns_le (B' := W1.heap.size + 1) (by have := B6'.lt; omega) f7.owns).row_other (Nat.lt_succ_self _) #[.int .i64 f, .int .i64 pr, .int .i64 sf, .int .u64 sh, .int .u64 sl, .int .i64 df, .int .u64 dh, .int .u64 dl, .int .i64 V.1, .int .i64 V.2, .int .i64 0, .int .u32 0, .int .u32 0, .int .i64 0, .int .i64 0, .int .i64 0, .bool false, .int .i64 0, .int .i64 0, .int .i64 0, .int .u64 0, .int .u64 0, .int .i64 0, .int .u64 0, .int .u64 0, .int .i64 0, .int .i64 0, .slice a7 D.length c7]
  go_wp2_with fail
  refine ret_cell_tmp (k := 2) (j := 3) Try.f56 (by kernel_rfl) Bf Try.underlying38 (by kernel_rfl) (by rfl) (by rfl) rfl ?_
  exact ⟨a7, c7, rfl, owns_le (by omega) oo, f7.room, f7.nil, oo.row f7.row.small f7.row.bytes, bf⟩

set_option maxRecDepth 100000 in
set_option maxHeartbeats 4000000 in
theorem udp_okb (f sf sh sl df dh dl pr ho : Int) (fg : Bool) (id of : Int) (mo : Bool) (xa : Option Addr) (xn xc : Nat) (da : Option Addr) (dc : Nat) (l : List Int) (w : World) (h : Row w da l) (hnil : da = none → dc = 0) (hc : l.length ≤ dc) (hcm : dc ≤ 9223372036854775807) (hs : Ad.ok ⟨sf, sh, sl⟩) (hd : Ad.ok ⟨df, dh, dl⟩) (h8 : ¬ l.length < 8) (h5 : ¬ u16v l 4 < 8) (h6 : ¬ u16v l 4 > (l.length : Int)) (hz : ¬ u16v (l.take (u16v l 4).toNat) 6 = 0) (hsum : sumsB ⟨sf, sh, sl⟩ ⟨df, dh, dl⟩ pr (l.take (u16v l 4).toNat) = true) :
    Calls Try.prog 56 #[.agg #[.int .i64 f, .int .i64 sf, .int .u64 sh, .int .u64 sl, .int .i64 df, .int .u64 dh, .int .u64 dl, .int .i64 pr, .int .i64 ho, .bool fg, .int .u32 id, .int .i64 of, .bool mo, .slice xa xn xc, .slice da l.length dc]] w (GotS w 0 (udpX f pr ⟨sf, sh, sl⟩ ⟨df, dh, dl⟩ l)) := by
  obtain ⟨W1, hW1⟩ : ∃ W1, w.alloc (.cells #[.int .i64 f, .int .i64 sf, .int .u64 sh, .int .u64 sl, .int .i64 df, .int .u64 dh, .int .u64 dl, .int .i64 pr, .int .i64 ho, .bool fg, .int .u32 id, .int .i64 of, .bool mo, .slice xa xn xc, .slice da l.length dc] 64) = W1 := ⟨_, rfl⟩
  obtain ⟨W2, hW2⟩ : ∃ W2, W1.alloc (.cells #[.int .i64 0, .int .i64 0, .int .i64 0, .int .u64 0, .int .u64 0, .int .i64 0, .int .u64 0, .int .u64 0, .int .i64 0, .int .i64 0, .int .i64 0, .int .u32 0, .int .u32 0, .int .i64 0, .int .i64 0, .int .i64 0, .bool false, .int .i64 0, .int .i64 0, .int .i64 0, .int .u64 0, .int .u64 0, .int .i64 0, .int .u64 0, .int .u64 0, .int .i64 0, .int .i64 0, .slice none 0 0] 38) = W2 := ⟨_, rfl⟩
  have b1 : Below w.heap.size w W1 := by rw [← hW1]; exact (Below.refl _ _).alloc (Nat.le_refl _) _
  have b2 : Below w.heap.size w W2 := by rw [← hW2]; exact b1.alloc b1.size _
  have B1' : Blk W1 w.heap.size 64 #[.int .i64 f, .int .i64 sf, .int .u64 sh, .int .u64 sl, .int .i64 df, .int .u64 dh, .int .u64 dl, .int .i64 pr, .int .i64 ho, .bool fg, .int .u32 id, .int .i64 of, .bool mo, .slice xa xn xc, .slice da l.length dc] := by rw [← hW1]; exact blk_new _ _ _
  have B1 : Blk W2 w.heap.size 64 #[.int .i64 f, .int .i64 sf, .int .u64 sh, .int .u64 sl, .int .i64 df, .int .u64 dh, .int .u64 dl, .int .i64 pr, .int .i64 ho, .bool fg, .int .u32 id, .int .i64 of, .bool mo, .slice xa xn xc, .slice da l.length dc] := by rw [← hW2]; exact B1'.alloc _
  have B2 : Blk W2 W1.heap.size 38 #[.int .i64 0, .int .i64 0, .int .i64 0, .int .u64 0, .int .u64 0, .int .i64 0, .int .u64 0, .int .u64 0, .int .i64 0, .int .i64 0, .int .i64 0, .int .u32 0, .int .u32 0, .int .i64 0, .int .i64 0, .int .i64 0, .bool false, .int .i64 0, .int .i64 0, .int .i64 0, .int .u64 0, .int .u64 0, .int .i64 0, .int .u64 0, .int .u64 0, .int .i64 0, .int .i64 0, .slice none 0 0] := by rw [← hW2]; exact blk_new _ _ _
  have g1 : w.heap.size < W1.heap.size := B1'.lt
  clear B1'
  have d0 := B1.cell 0 (.int .i64 f) rfl
  have d14 := B1.cell 14 (.slice da l.length dc) rfl
  have h8' : ¬ (l.length : Int) < 8 := by omega
  have hnn := u16v_bd h.bytes 4
  obtain ⟨nn, hn⟩ := Int.eq_ofNat_of_zero_le hnn.1
  have K1 := segU16_any da dc l 4 W2 (h.below b2) (by decide)
  rw [hn] at K1
  have K1 : Hid _ := K1
  rw [hn] at h5 h6
  have n8 : 8 ≤ nn := by omega
  have nl : nn ≤ l.length := by omega
  have j1 : (0 : Int) ≤ (nn : Int) := by omega
  have j2 : (nn : Int) ≤ (dc : Int) := by omega
  have j3 : nn ≤ dc := by omega
  obtain ⟨b, hb⟩ : ∃ b, l.take nn = b := ⟨_, rfl⟩
  have lb : b.length = nn := by rw [← hb, List.length_take]; omega
  have hnt : (u16v l 4).toNat = nn := by rw [hn]; simp
  rw [hnt, hb] at hz
  have RB : Hid (∀ W, Row W da l → Row W da b) := fun W hW => by rw [← hb]; exact hW.take nn
  obtain ⟨z, hz0⟩ : ∃ z, u16v b 6 = z := ⟨_, rfl⟩
  have K2 : Hid (∀ W, Row W da l → Calls Try.prog 71 #[.slice da nn dc, .int .i64 6] W fun e w' => e = .returned (.int .i64 z) ∧ Below W.heap.size W w') := fun W hW => by
    have := segU16_any da dc b 6 W (RB.out W hW) (by decide)
    rw [hz0, lb] at this
    exact this
  obtain ⟨a3, ha3⟩ : ∃ a3, (if dc = 8 then da else da.map (fun x => x.add 8)) = a3 := ⟨_, rfl⟩
  have H3 : Hid ((if dc = 8 then da else Option.map (fun x => { block := x.block, off := x.off + 8 }) da) = a3) := by
    obtain ⟨bk, off, e, _⟩ := h.cells (by omega)
    have : (if dc = 8 then da else Option.map (fun x => { block := x.block, off := x.off + 8 }) da) = a3 := by
      rw [← ha3, e]
      simp [Go.WideShapes.add_plain]
    exact this
  obtain ⟨D, hD⟩ : ∃ D, b.drop 8 = D := ⟨_, rfl⟩
  have lD : D.length = nn - 8 := by rw [← hD, List.length_drop, lb]
  have KC : Hid (∀ W, Row W da l → Calls Try.prog 72 #[.slice a3 (nn - 8) (dc - 8)] W fun e w' => ∃ a' c', e = .returned (.slice a' D.length c') ∧ Fresh W w' a' c' D) := fun W hW => by
    have hr := (RB.out W hW).drop dc 8 (by omega)
    rw [ha3, hD] at hr
    have := clone_any a3 (dc - 8) D W hr (fun e => by
      rw [e] at ha3
      split at ha3
      · omega
      · have : da = none := by simpa using ha3
        have := hnil this
        omega)
    rw [lD] at this ⊢
    exact this
  obtain ⟨V, hV⟩ : ∃ V, portsOf f pr l = V := ⟨_, rfl⟩
  have KW : Hid (∀ W, Row W da l → Calls Try.prog 70 #[.agg #[.int .i64 f, .int .i64 sf, .int .u64 sh, .int .u64 sl, .int .i64 df, .int .u64 dh, .int .u64 dl, .int .i64 pr, .int .i64 ho, .bool fg, .int .u32 id, .int .i64 of, .bool mo, .slice xa xn xc, .slice da l.length dc]] W fun e w' => e = .returned (.agg #[.int .i64 f, .int .i64 pr, .int .i64 sf, .int .u64 sh, .int .u64 sl, .int .i64 df, .int .u64 dh, .int .u64 dl, .int .i64 V.1, .int .i64 V.2]) ∧ Below W.heap.size W w') := fun W hW => by
    have := way_any f sf sh sl df dh dl pr ho fg id of mo xa xn xc da dc l W hW (by omega)
    rw [hV] at this
    exact this
  have e : udpX f pr ⟨sf, sh, sl⟩ ⟨df, dh, dl⟩ l = ⟨⟨f, pr, ⟨sf, sh, sl⟩, ⟨df, dh, dl⟩, V.1, V.2⟩, 0, 0, 0, 0, 0, 0, false, zTp, D⟩ := by
    unfold udpX endT
    rw [hV, hnt, hb, hD]
  rw [e]
  have HD : Hid (D.length = nn - 8) := lD
  have j8 : (8 : Int) ≤ (nn : Int) := by omega
  have j9 : 8 ≤ nn := by omega
  clear e hV hD lD ha3
  rw [hz0] at hz
  rw [hnt, hb] at hsum
  have KS : Hid (∀ W, Row W da l → Calls Try.prog 67 #[.agg #[.int .i64 f, .int .i64 sf, .int .u64 sh, .int .u64 sl, .int .i64 df, .int .u64 dh, .int .u64 dl, .int .i64 pr, .int .i64 ho, .bool fg, .int .u32 id, .int .i64 of, .bool mo, .slice xa xn xc, .slice da l.length dc], .slice da nn dc] W fun e w' => e = .returned (.bool true) ∧ Below W.heap.size W w') := fun W hW => by
    have := sumsUp_any f sf sh sl df dh dl pr ho fg id of mo xa xn xc da dc l da dc b W (RB.out W hW) hs hd
    rw [lb, hsum] at this
    exact this
  have hz' : (z == 0) = false := by simpa using hz
  clear hz hsum
  have HB : Hid (l.take nn = b ∧ b.length = nn ∧ (u16v l 4).toNat = nn) := ⟨hb, lb, hnt⟩
  clear hb lb hnt hnn hn
  go_enter Try.func56, Try.ntmps56
  go_wp2_with fail
  refine Calls.mono K1.out ?_
  rintro e W3 ⟨rfl, bb⟩
  have b3 : Below w.heap.size w W3 := b2.trans (bb.mono b2.size)
  have B3 := B1.kept bb
  have B3' := B2.kept bb
  have d0 := B3.cell 0 (.int .i64 f) rfl
  have d14 := B3.cell 14 (.slice da l.length dc) rfl
  clear K1 bb B1 B2 b2 hW1 hW2
  go_wp2_with fail
  refine Calls.mono (K2.out _ (h.below b3)) ?_
  rintro e W4 ⟨rfl, bb⟩
  have b4 : Below w.heap.size w W4 := b3.trans (bb.mono b3.size)
  have B4 := B3.kept bb
  have B4' := B3'.kept bb
  clear d0 d14
  have d0 := B4.cell 0 (.int .i64 f) rfl
  clear K2 bb B3 B3' b3
  clear d0
  have d0 := B4.cell 0 (.int .i64 f) rfl
  have d1 := B4.cell 1 (.int .i64 sf) rfl
  have d2 := B4.cell 2 (.int .u64 sh) rfl
  have d3 := B4.cell 3 (.int .u64 sl) rfl
  have d4 := B4.cell 4 (.int .i64 df) rfl
  have d5 := B4.cell 5 (.int .u64 dh) rfl
  have d6 := B4.cell 6 (.int .u64 dl) rfl
  have d7 := B4.cell 7 (.int .i64 pr) rfl
  have d8 := B4.cell 8 (.int .i64 ho) rfl
  have d9 := B4.cell 9 (.bool fg) rfl
  have d10 := B4.cell 10 (.int .u32 id) rfl
  have d11 := B4.cell 11 (.int .i64 of) rfl
  have d12 := B4.cell 12 (.bool mo) rfl
  have d13 := B4.cell 13 (.slice xa xn xc) rfl
  have d14 := B4.cell 14 (.slice da l.length dc) rfl
  go_wp2_with fail
  refine Calls.mono (KS.out _ (h.below b4)) ?_
  rintro e W5 ⟨rfl, bb⟩
  have b5 : Below w.heap.size w W5 := b4.trans (bb.mono b4.size)
  have B5 := B4.kept bb
  have B5' := B4'.kept bb
  clear d0 d1 d2 d3 d4 d5 d6 d7 d8 d9 d10 d11 d12 d13 d14 KS bb B4 B4' b4
  go_wp2_with fail
  refine wp_region_noPanic ?_
  refine wp_region_held_drew (S := fun w' => Blk w' w.heap.size 64 #[.int .i64 f, .int .i64 sf, .int .u64 sh, .int .u64 sl, .int .i64 df, .int .u64 dh, .int .u64 dl, .int .i64 pr, .int .i64 ho, .bool fg, .int .u32 id, .int .i64 of, .bool mo, .slice xa xn xc, .slice da l.length dc]) (by kernel_rfl) (by exact B5.drew) (fun hHeld => ?_)
  refine wpAnyH_take (i := 0) (oi := ub17) (v := (.agg #[.int .i64 f, .int .i64 sf, .int .u64 sh, .int .u64 sl, .int .i64 df, .int .u64 dh, .int .u64 dl, .int .i64 pr, .int .i64 ho, .bool fg, .int .u32 id, .int .i64 of, .bool mo, .slice xa xn xc, .slice da l.length dc])) rfl (by kernel_rfl) (by kernel_rfl) (by kernel_rfl) (fun _ _ _ h => h) (yieldsIf_blk rfl _ _ rfl w.heap.size (by rfl) _ (fun _ hSw => hSw) Try.underlying64 (by kernel_rfl)) hHeld ?_
  try simp only [Act.put, List.setIfInBounds_toArray, List.set_cons_zero, List.set_cons_succ]
  refine wpAnyH_take (i := 2) (oi := ub18) (v := (.slice da nn dc)) rfl (by kernel_rfl) (by kernel_rfl) (by kernel_rfl) (fun _ _ _ h => h) (Or.inl ⟨by rfl, ?_⟩) hHeld ?_
  · intro w9 hSw
    try dsimp only at hSw
    go_simp
  try simp only [Act.put, List.setIfInBounds_toArray, List.set_cons_zero, List.set_cons_succ]
  refine wpAnyH_take (i := 3) (oi := ub14) (v := (.slice a3 (nn - 8) (dc - 8))) rfl (by kernel_rfl) (by kernel_rfl) (by kernel_rfl) (fun _ _ _ h => h) (Or.inl ⟨by rfl, ?_⟩) hHeld ?_
  · intro w9 hSw
    try dsimp only at hSw
    go_simp
    exact H3.out
  try simp only [Act.put, List.setIfInBounds_toArray, List.set_cons_zero, List.set_cons_succ]
  refine wpAnyH_ready (rs := [1]) (by kernel_rfl) (by simp) ?_
  refine AllReadyH.cons (o := ub12) rfl (fun K hK => ?_) AllReadyH.nil
  go_simp
  refine Calls.mono (KW.out _ (h.below b5.drew)) ?_
  rintro e W6 ⟨rfl, bb⟩
  have B6 := B5.drew.kept bb
  have B6' := B5'.drew.kept bb
  have b6 : Below w.heap.size w W6 := b5.drew.trans (bb.mono b5.drew.size)
  refine hK.out _ _ ?_ (fun hHeld => ?_)
  · exact B6
  clear hK K
  try simp only [Act.put, List.setIfInBounds_toArray, List.set_cons_zero, List.set_cons_succ]
  refine wpAnyH_ready (rs := [4]) (by kernel_rfl) (by simp) ?_
  refine AllReadyH.cons (o := ub9) rfl (fun K hK => ?_) AllReadyH.nil
  go_simp
  refine Calls.mono (KC.out _ (h.below b6)) ?_
  rintro e W7 ⟨a7, c7, rfl, f7⟩
  have B7 := B6.kept f7.below
  have B7' := B6'.kept f7.below
  have b7 : Below w.heap.size w W7 := b6.trans (f7.below.mono b6.size)
  refine hK.out _ _ ?_ (fun hHeld => ?_)
  · exact B7
  clear hK K
  try simp only [Act.put, List.setIfInBounds_toArray, List.set_cons_zero, List.set_cons_succ]
  refine wpAnyH_take (i := 5) (oi := ub13) (v := (.agg #[.int .i64 f, .int .i64 pr, .int .i64 sf, .int .u64 sh, .int .u64 sl, .int .i64 df, .int .u64 dh, .int .u64 dl, .int .i64 V.1, .int .i64 V.2, .int .i64 0, .int .u32 0, .int .u32 0, .int .i64 0, .int .i64 0, .int .i64 0, .bool false, .int .i64 0, .int .i64 0, .int .i64 0, .int .u64 0, .int .u64 0, .int .i64 0, .int .u64 0, .int .u64 0, .int .i64 0, .int .i64 0, .slice a7 D.length c7])) rfl (by kernel_rfl) (by kernel_rfl) (by kernel_rfl) (fun _ _ _ h => h) (yieldsIf_build rfl _ _ rfl #[(0, .agg #[.int .i64 f, .int .i64 pr, .int .i64 sf, .int .u64 sh, .int .u64 sl, .int .i64 df, .int .u64 dh, .int .u64 dl, .int .i64 V.1, .int .i64 V.2]), (9, .slice a7 D.length c7)] (by kernel_rfl) _ (fun w9 => by kernel_rfl)) hHeld ?_
  try simp only [Act.put, List.setIfInBounds_toArray, List.set_cons_zero, List.set_cons_succ]
  refine wpAnyH_ready (rs := [6]) (by kernel_rfl) (by simp) ?_
  refine AllReadyH.cons (o := ub7) rfl (fun K hK => ?_) AllReadyH.nil
  refine step_store_blk rfl _ _ _ rfl W1.heap.size #[.int .i64 f, .int .i64 pr, .int .i64 sf, .int .u64 sh, .int .u64 sl, .int .i64 df, .int .u64 dh, .int .u64 dl, .int .i64 V.1, .int .i64 V.2, .int .i64 0, .int .u32 0, .int .u32 0, .int .i64 0, .int .i64 0, .int .i64 0, .bool false, .int .i64 0, .int .i64 0, .int .i64 0, .int .u64 0, .int .u64 0, .int .i64 0, .int .u64 0, .int .u64 0, .int .i64 0, .int .i64 0, .slice a7 D.length c7] _ (by kernel_rfl) (by kernel_rfl) B7' (by kernel_rfl) (by rfl) (by kernel_rfl) ?_
  refine hK.out _ _ ?_ (fun hHeld => ?_)
  · exact B7.other (by omega) _
  clear hK K
  try simp only [Act.put, List.setIfInBounds_toArray, List.set_cons_zero, List.set_cons_succ]
  refine wpAnyH_take (i := 7) (oi := ub6) (v := (.int .i64 0)) rfl (by kernel_rfl) (by kernel_rfl) (by kernel_rfl) (fun _ _ _ h => h) (Or.inl ⟨by rfl, ?_⟩) hHeld ?_
  · intro w9 hSw
    try dsimp only at hSw
    go_simp
  try simp only [Act.put, List.setIfInBounds_toArray, List.set_cons_zero, List.set_cons_succ]
  refine wpAnyH_done (by kernel_rfl) ?_ _
  refine NoPanic.normal ?_
  have Bf := B7'.set #[.int .i64 f, .int .i64 pr, .int .i64 sf, .int .u64 sh, .int .u64 sl, .int .i64 df, .int .u64 dh, .int .u64 dl, .int .i64 V.1, .int .i64 V.2, .int .i64 0, .int .u32 0, .int .u32 0, .int .i64 0, .int .i64 0, .int .i64 0, .bool false, .int .i64 0, .int .i64 0, .int .i64 0, .int .u64 0, .int .u64 0, .int .i64 0, .int .u64 0, .int .u64 0, .int .i64 0, .int .i64 0, .slice a7 D.length c7]
  have bf := below_setRow b7 (Nat.le_of_lt g1) #[.int .i64 f, .int .i64 pr, .int .i64 sf, .int .u64 sh, .int .u64 sl, .int .i64 df, .int .u64 dh, .int .u64 dl, .int .i64 V.1, .int .i64 V.2, .int .i64 0, .int .u32 0, .int .u32 0, .int .i64 0, .int .i64 0, .int .i64 0, .bool false, .int .i64 0, .int .i64 0, .int .i64 0, .int .u64 0, .int .u64 0, .int .i64 0, .int .u64 0, .int .u64 0, .int .i64 0, .int .i64 0, .slice a7 D.length c7]
  have oo := (owns_le (B' := W1.heap.size + 1) (by have := B6'.lt; omega) f7.owns).row_other (Nat.lt_succ_self _) #[.int .i64 f, .int .i64 pr, .int .i64 sf, .int .u64 sh, .int .u64 sl, .int .i64 df, .int .u64 dh, .int .u64 dl, .int .i64 V.1, .int .i64 V.2, .int .i64 0, .int .u32 0, .int .u32 0, .int .i64 0, .int .i64 0, .int .i64 0, .bool false, .int .i64 0, .int .i64 0, .int .i64 0, .int .u64 0, .int .u64 0, .int .i64 0, .int .u64 0, .int .u64 0, .int .i64 0, .int .i64 0, .slice a7 D.length c7]
  go_wp2_with fail
  refine ret_cell_tmp (k := 2) (j := 3) Try.f56 (by kernel_rfl) Bf Try.underlying38 (by kernel_rfl) (by rfl) (by rfl) rfl ?_
  exact ⟨a7, c7, rfl, owns_le (by omega) oo, f7.room, f7.nil, oo.row f7.row.small f7.row.bytes, bf⟩

theorem udp_any (f sf sh sl df dh dl pr ho : Int) (fg : Bool) (id of : Int) (mo : Bool) (xa : Option Addr) (xn xc : Nat) (da : Option Addr) (dc : Nat) (l : List Int) (w : World) (h : Row w da l) (hnil : da = none → dc = 0) (hc : l.length ≤ dc) (hcm : dc ≤ 9223372036854775807) (hs : Ad.ok ⟨sf, sh, sl⟩) (hd : Ad.ok ⟨df, dh, dl⟩) :
    Calls Try.prog 56 #[.agg #[.int .i64 f, .int .i64 sf, .int .u64 sh, .int .u64 sl, .int .i64 df, .int .u64 dh, .int .u64 dl, .int .i64 pr, .int .i64 ho, .bool fg, .int .u32 id, .int .i64 of, .bool mo, .slice xa xn xc, .slice da l.length dc]] w (GotS w (udpE f pr ⟨sf, sh, sl⟩ ⟨df, dh, dl⟩ l) (if udpE f pr ⟨sf, sh, sl⟩ ⟨df, dh, dl⟩ l = 0 then udpX f pr ⟨sf, sh, sl⟩ ⟨df, dh, dl⟩ l else zSg)) := by
  obtain ⟨E, hE⟩ : ∃ E, udpE f pr ⟨sf, sh, sl⟩ ⟨df, dh, dl⟩ l = E := ⟨_, rfl⟩
  rw [hE]
  unfold udpE at hE
  split at hE
  · rename_i h8
    subst hE
    exact udp_e2 f sf sh sl df dh dl pr ho fg id of mo xa xn xc da dc l w h hnil hc hcm hs hd h8
  rename_i h8
  split at hE
  · rename_i h5
    subst hE
    by_cases h5a : u16v l 4 < 8
    · exact udp_e5a f sf sh sl df dh dl pr ho fg id of mo xa xn xc da dc l w h hnil hc hcm hs hd h8 h5a
    · exact udp_e5b f sf sh sl df dh dl pr ho fg id of mo xa xn xc da dc l w h hnil hc hcm hs hd h8 h5a (by omega)
  rename_i h5
  have h5a : ¬ u16v l 4 < 8 := by omega
  have h6a : ¬ u16v l 4 > (l.length : Int) := by omega
  split at hE
  · rename_i hz
    split at hE
    · rename_i h66
      subst hE
      exact udp_e6a f sf sh sl df dh dl pr ho fg id of mo xa xn xc da dc l w h hnil hc hcm hs hd h8 h5a h6a hz h66
    · rename_i h66
      subst hE
      exact udp_oka f sf sh sl df dh dl pr ho fg id of mo xa xn xc da dc l w h hnil hc hcm hs hd h8 h5a h6a hz h66
  · rename_i hz
    split at hE
    · rename_i hsum
      subst hE
      exact udp_okb f sf sh sl df dh dl pr ho fg id of mo xa xn xc da dc l w h hnil hc hcm hs hd h8 h5a h6a hz hsum
    · rename_i hsum
      subst hE
      exact udp_e6b f sf sh sl df dh dl pr ho fg id of mo xa xn xc da dc l w h hnil hc hcm hs hd h8 h5a h6a hz (by simpa using hsum)

end Go.Proofs.Ytgdpcomcndidcaa

namespace Go.Proofs.Ytgdpcomcndidcaa
open Go.RowKit
set_option linter.unusedVariables false
set_option linter.unusedSimpArgs false

theorem Owns.cap_le {w : World} {B c n : Nat} {a : Option Addr} {l : List Int} (h : Owns w B (.slice a n c) l) : c ≤ 9223372036854775807 := by
  obtain ⟨_, h⟩ := h
  rcases h with ⟨h3, _⟩ | ⟨g, cap, cur, h3, h4, h5, h6, h7, _⟩
  · simp only [Value.slice.injEq] at h3
    omega
  · simp only [Value.slice.injEq] at h3
    obtain ⟨_, _, rfl⟩ := h3
    unfold maxLen at h7
    omega

theorem Owns.blk_other {W : World} {B g : Nat} {v : Value} {l : List Int} {t : TypeId} {cs : Array Value} (h : Owns W B v l) (hb : Blk W g t cs) (ht : t ≠ 5) (cs' : Array Value) : Owns (W.setRow g cs') B v l := by
  obtain ⟨h1, h2⟩ := h
  refine ⟨h1, ?_⟩
  rcases h2 with h2 | ⟨g', cap, cur, h3, h4, h5, h6⟩
  · exact .inl h2
  · have hne : g' ≠ g := by
      intro e
      subst e
      have hb' : W.heap[g']? = some (.cells cs t (0, 0)) := hb
      rw [hb'] at h5
      simp at h5
      exact ht h5.2
    exact .inr ⟨g', cap, cur, h3, h4, (setRow_heap_ne W g g' cs' hne).trans h5, h6⟩
theorem Owns.blk_put {W : World} {B g : Nat} {v : Value} {l : List Int} {t : TypeId} {cs : Array Value} (h : Owns W B v l) (hb : Blk W g t cs) (ht : t ≠ 5) (i : Nat) (x : Value) : Owns (W.setCell ⟨g, i, none⟩ x) B v l := by
  rw [setCell_eq_setRow W g i cs t (0, 0) x hb]
  exact h.blk_other hb ht _

end Go.Proofs.Ytgdpcomcndidcaa

namespace Go.Proofs.Ytgdpcomcndidcaa
open Go.RowKit Go.Maps
set_option linter.unusedVariables false
set_option linter.unusedSimpArgs false

abbrev ftcp : Value := .func (.func 55) #[] #[]
abbrev fudp : Value := .func (.func 56) #[] #[]
abbrev ficmp : Value := .func (.func 58) #[] #[]
theorem seg_insert {w : World} {b ck : Nat} {es : Array MapEntry} {x : Int} (v : Value) (hb : w.heap[b]? = some (.map es ck)) (hn : Instr.findNow (.int .i64) (.int .i64 x) es.toList 0 = some none) :
    (Instr.mapUpdate 62 (.map (some b)) (.int .i64 x) v).run Try.prog w = .ok () (ChangeMaps.setBlock w b (.map (es.push ⟨.int .i64 x, v, ck⟩) (ck + 1))) := by
  simp [Instr.mapUpdate, check_int, Instr.findKey, run_underlying Try.underlying62, run_underlying Try.underlying3, MapKept.run_getObj_map hb, hn, MapKept.run_setObj_map _ hb, Result.andThen, ChangeMaps.setBlock]
def lookS (I n : Int) : Value := if n = 6 then ftcp else if n = 17 then fudp else if n = I then ficmp else .nilFunc
def knownS (I n : Int) : Bool := n == 6 || (n == 17 || n == I)
/-- What is found in a table. -/
def Tab (I : Int) (es : Array MapEntry) : Prop := ∀ (w : World) (b ck : Nat) (n : Int), w.heap[b]? = some (.map es ck) → (Instr.lookup 62 (.map (some b)) (.int .i64 n) true).run Try.prog w = .ok (.tuple #[lookS I n, .bool (knownS I n)]) w
theorem look3 (k1 k2 k3 : Int) (v1 v2 v3 : Value) (n : Int) {w : World} {b ck : Nat} (hb : w.heap[b]? = some (.map #[⟨.int .i64 k1, v1, 0⟩, ⟨.int .i64 k2, v2, 1⟩, ⟨.int .i64 k3, v3, 2⟩] ck)) (d12 : k2 ≠ k1) (d13 : k3 ≠ k1) (d23 : k3 ≠ k2) :
    (Instr.lookup 62 (.map (some b)) (.int .i64 n) true).run Try.prog w = .ok (.tuple #[if n = k1 then v1 else if n = k2 then v2 else if n = k3 then v3 else .nilFunc, .bool (decide (n = k1) || (decide (n = k2) || decide (n = k3)))]) w := by
  have hz : (zeroValue 60).run Try.prog w = .ok .nilFunc w := by kernel_rfl
  by_cases h1 : n = k1
  · subst h1
    simp [Instr.lookup, check_int, Instr.findKey, run_underlying Try.underlying62, run_underlying Try.underlying3, MapKept.run_getObj_map hb, Instr.findNow, Instr.sameNow, hz, Result.andThen]
  have e1 : (k1 == n) = false := by simpa using (fun e => h1 e.symm)
  have e1' : (n == k1) = false := by simpa using h1
  by_cases h2 : n = k2
  · subst h2
    simp [Instr.lookup, check_int, Instr.findKey, run_underlying Try.underlying62, run_underlying Try.underlying3, MapKept.run_getObj_map hb, Instr.findNow, Instr.sameNow, hz, Result.andThen, e1, e1', h1]
  have e2 : (k2 == n) = false := by simpa using (fun e => h2 e.symm)
  have e2' : (n == k2) = false := by simpa using h2
  by_cases h3 : n = k3
  · subst h3
    simp [Instr.lookup, check_int, Instr.findKey, run_underlying Try.underlying62, run_underlying Try.underlying3, MapKept.run_getObj_map hb, Instr.findNow, Instr.sameNow, hz, Result.andThen, e1, e1', h1, e2, e2', h2]
  have e3 : (k3 == n) = false := by simpa using (fun e => h3 e.symm)
  have e3' : (n == k3) = false := by simpa using h3
  simp [Instr.lookup, check_int, Instr.findKey, run_underlying Try.underlying62, run_underlying Try.underlying3, MapKept.run_getObj_map hb, Instr.findNow, Instr.sameNow, hz, Result.andThen, e1, e1', h1, e2, e2', h2, e3, e3', h3]
theorem tab_of (I k1 k2 k3 : Int) (v1 v2 v3 : Value) (d12 : k2 ≠ k1) (d13 : k3 ≠ k1) (d23 : k3 ≠ k2) (h : ∀ n : Int, (if n = k1 then v1 else if n = k2 then v2 else if n = k3 then v3 else Value.nilFunc) = lookS I n ∧ (decide (n = k1) || (decide (n = k2) || decide (n = k3))) = knownS I n) :
    Tab I #[⟨.int .i64 k1, v1, 0⟩, ⟨.int .i64 k2, v2, 1⟩, ⟨.int .i64 k3, v3, 2⟩] := by
  intro w b ck n hb
  rw [look3 k1 k2 k3 v1 v2 v3 n hb d12 d13 d23, (h n).1, (h n).2]
theorem step_mk {ops : Array Oper} {o : Oper} {ac : Act} {K : Act → World → Prop} {Q : Exit → Act → World → Prop} {Z : Prop} {w : World} (hgd : o.guard = none) (t : TypeId) (ho : o.op = Op.makeMap t none) (h : K (ac.put o.dst (.map (some w.heap.size))) (w.alloc (.map #[] 0))) :
    if Region.wanted o (yielded ops ac.tmps) = true then Oper.wp Try.prog o ac w K Q else Z := by
  have hw : Region.wanted o (yielded ops ac.tmps) = true := by simp [Region.wanted, hgd]
  rw [if_pos hw]
  simp [Oper.wp, Oper.upon, execOp, ho, Instr.makeMap, Result.andThen]
  exact h
theorem step_ins {ops : Array Oper} {o : Oper} {ac : Act} {K : Act → World → Prop} {Q : Exit → Act → World → Prop} {Z : Prop} {w : World} (hgd : o.guard = none) (m k x : Operand) (ho : o.op = Op.insert 62 m k x) (b : Nat) (n : Int) (v : Value) (es : Array MapEntry) (ck : Nat)
    (hm : ac.eval m = .map (some b)) (hk : ac.eval k = .int .i64 n) (hx : ac.eval x = v) (hb : w.heap[b]? = some (.map es ck)) (hn : Instr.findNow (.int .i64) (.int .i64 n) es.toList 0 = some none) (h : ∀ w', w'.heap[b]? = some (.map (es.push ⟨.int .i64 n, v, ck⟩) (ck + 1)) → w.grownBy w' (some b) → w'.heap.size = w.heap.size → K (ac.put o.dst undef) w') :
    if Region.wanted o (yielded ops ac.tmps) = true then Oper.wp Try.prog o ac w K Q else Z := by
  have hw : Region.wanted o (yielded ops ac.tmps) = true := by simp [Region.wanted, hgd]
  rw [if_pos hw]
  have hr := seg_insert v hb hn
  simp [Oper.wp, Oper.upon, execOp, ho, hm, hk, hx, hr, Result.andThen]
  exact h _ (ChangeMaps.heap_setBlock_same hb _) (grownBy_setBlock hb _) (by simp [ChangeMaps.setBlock])

theorem tab_4_ABI (n : Int) : (if n = 6 then ftcp else if n = 17 then fudp else if n = 1 then ficmp else Value.nilFunc) = lookS 1 n ∧ (decide (n = 6) || (decide (n = 17) || decide (n = 1))) = knownS 1 n := by
  unfold lookS knownS
  by_cases h1 : n = 6
  · subst h1; simp
  by_cases h2 : n = 17
  · subst h2; simp
  by_cases h3 : n = 1
  · subst h3; simp
  · simp [h1, h2, h3]
theorem tab_4_AIB (n : Int) : (if n = 6 then ftcp else if n = 1 then ficmp else if n = 17 then fudp else Value.nilFunc) = lookS 1 n ∧ (decide (n = 6) || (decide (n = 1) || decide (n = 17))) = knownS 1 n := by
  unfold lookS knownS
  by_cases h1 : n = 6
  · subst h1; simp
  by_cases h2 : n = 17
  · subst h2; simp
  by_cases h3 : n = 1
  · subst h3; simp
  · simp [h1, h2, h3]
theorem tab_4_BAI (n : Int) : (if n = 17 then fudp else if n = 6 then ftcp else if n = 1 then ficmp else Value.nilFunc) = lookS 1 n ∧ (decide (n = 17) || (decide (n = 6) || decide (n = 1))) = knownS 1 n := by
  unfold lookS knownS
  by_cases h1 : n = 6
  · subst h1; simp
  by_cases h2 : n = 17
  · subst h2; simp
  by_cases h3 : n = 1
  · subst h3; simp
  · simp [h1, h2, h3]
theorem tab_4_BIA (n : Int) : (if n = 17 then fudp else if n = 1 then ficmp else if n = 6 then ftcp else Value.nilFunc) = lookS 1 n ∧ (decide (n = 17) || (decide (n = 1) || decide (n = 6))) = knownS 1 n := by
  unfold lookS knownS
  by_cases h1 : n = 6
  · subst h1; simp
  by_cases h2 : n = 17
  · subst h2; simp
  by_cases h3 : n = 1
  · subst h3; simp
  · simp [h1, h2, h3]
theorem tab_4_IAB (n : Int) : (if n = 1 then ficmp else if n = 6 then ftcp else if n = 17 then fudp else Value.nilFunc) = lookS 1 n ∧ (decide (n = 1) || (decide (n = 6) || decide (n = 17))) = knownS 1 n := by
  unfold lookS knownS
  by_cases h1 : n = 6
  · subst h1; simp
  by_cases h2 : n = 17
  · subst h2; simp
  by_cases h3 : n = 1
  · subst h3; simp
  · simp [h1, h2, h3]
theorem tab_4_IBA (n : Int) : (if n = 1 then ficmp else if n = 17 then fudp else if n = 6 then ftcp else Value.nilFunc) = lookS 1 n ∧ (decide (n = 1) || (decide (n = 17) || decide (n = 6))) = knownS 1 n := by
  unfold lookS knownS
  by_cases h1 : n = 6
  · subst h1; simp
  by_cases h2 : n = 17
  · subst h2; simp
  by_cases h3 : n = 1
  · subst h3; simp
  · simp [h1, h2, h3]
set_option maxRecDepth 100000 in
set_option maxHeartbeats 4000000 in
theorem readers_4 (f : Int) (w : World) (hf : f = 4) : Calls Try.prog 33 #[.int .i64 f] w fun e w' => ∃ es G, e = .returned (.map (some G)) ∧ w'.heap[G]? = some (.map es 3) ∧ Tab 1 es ∧ Below w.heap.size w w' := by
  have KI : Hid (∀ W, Calls Try.prog 57 #[.int .i64 f] W fun e w' => e = .returned (.int .i64 1) ∧ w' = W) := fun W => by
    have := icmpOf_any f W
    unfold icmpOf at this
    rw [if_pos hf] at this
    exact this
  clear hf
  go_enter Try.func33, Try.ntmps33
  go_wp2_with fail
  refine wp_region_noPanic ?_
  refine wp_region_held_drew (S := fun _ => True) (by kernel_rfl) trivial (fun hHeld => ?_)
  refine wpAnyH_take (i := 3) (oi := ub19) (v := (.int .i64 f)) rfl (by kernel_rfl) (by kernel_rfl) (by kernel_rfl) (fun _ _ _ h => h) (Or.inl ⟨by rfl, ?_⟩) hHeld ?_
  · intro w9 hSw
    try dsimp only at hSw
    go_simp
  try simp only [Act.put, List.setIfInBounds_toArray, List.set_cons_zero, List.set_cons_succ]
  have c0 : Below w.heap.size w w.drew := (Below.refl _ _).drew
  obtain ⟨W0, hW0⟩ : ∃ W, w.drew = W := ⟨_, rfl⟩
  rw [hW0] at c0 ⊢
  clear hW0
  refine wpAnyH_ready (rs := [0, 4]) (by kernel_rfl) (by simp) ?_
  refine (AllReadyH.cons (o := ub8) rfl (fun K hK => ?_) (AllReadyH.cons (o := ub5) rfl (fun K hK => ?_) AllReadyH.nil))
  · refine step_mk rfl _ rfl ?_
    have hb := World.heap_new W0 (.map #[] 0)
    have c1 := c0.alloc c0.size (.map #[] 0)
    have hG : w.heap.size ≤ W0.heap.size := c0.size
    have hL : W0.heap.size < (W0.alloc (.map #[] 0)).heap.size := by simp
    refine hK.out _ _ trivial (fun hHeld => ?_)
    clear hK K
    generalize W0.alloc (.map #[] 0) = W1 at *
    generalize W0.heap.size = G at *
    try simp only [Act.put, List.setIfInBounds_toArray, List.set_cons_zero, List.set_cons_succ]
    refine wpAnyH_ready (rs := [1, 2, 4]) (by kernel_rfl) (by simp) ?_
    refine (AllReadyH.cons (o := ub4) rfl (fun K hK => ?_) (AllReadyH.cons (o := ub3) rfl (fun K hK => ?_) (AllReadyH.cons (o := ub5) rfl (fun K hK => ?_) AllReadyH.nil)))
    · refine step_ins rfl _ _ _ rfl G 6 ftcp (#[] : Array MapEntry) 0 (by kernel_rfl) (by kernel_rfl) (by kernel_rfl) hb rfl ?_
      intro W2 hb' gr sz
      have c2 : Below w.heap.size w W2 := c1.grown gr c1.size (fun k hk => by cases hk; exact hG)
      have hL' : G < W2.heap.size := by rw [sz]; exact hL
      clear hb hL sz gr c1
      have hL := hL'
      have hb : W2.heap[G]? = some (.map #[⟨.int .i64 6, ftcp, 0⟩] 1) := hb'
      clear hb' hL'
      refine hK.out _ _ trivial (fun hHeld => ?_)
      clear hK K
      try simp only [Act.put, List.setIfInBounds_toArray, List.set_cons_zero, List.set_cons_succ]
      refine wpAnyH_ready (rs := [2, 4]) (by kernel_rfl) (by simp) ?_
      refine (AllReadyH.cons (o := ub3) rfl (fun K hK => ?_) (AllReadyH.cons (o := ub5) rfl (fun K hK => ?_) AllReadyH.nil))
      · refine step_ins rfl _ _ _ rfl G 17 fudp (#[⟨.int .i64 6, ftcp, 0⟩] : Array MapEntry) 1 (by kernel_rfl) (by kernel_rfl) (by kernel_rfl) hb rfl ?_
        intro W3 hb' gr sz
        have c3 : Below w.heap.size w W3 := c2.grown gr c2.size (fun k hk => by cases hk; exact hG)
        have hL' : G < W3.heap.size := by rw [sz]; exact hL
        clear hb hL sz gr c2
        have hL := hL'
        have hb : W3.heap[G]? = some (.map #[⟨.int .i64 6, ftcp, 0⟩, ⟨.int .i64 17, fudp, 1⟩] 2) := hb'
        clear hb' hL'
        refine hK.out _ _ trivial (fun hHeld => ?_)
        clear hK K
        try simp only [Act.put, List.setIfInBounds_toArray, List.set_cons_zero, List.set_cons_succ]
        refine wpAnyH_ready (rs := [4]) (by kernel_rfl) (by simp) ?_
        refine (AllReadyH.cons (o := ub5) rfl (fun K hK => ?_) AllReadyH.nil)
        · go_simp
          refine Calls.mono (KI.out _) ?_
          rintro e W4 ⟨rfl, hW4⟩
          rw [hW4]
          clear hW4 W4
          refine hK.out _ _ trivial (fun hHeld => ?_)
          clear hK K
          try simp only [Act.put, List.setIfInBounds_toArray, List.set_cons_zero, List.set_cons_succ]
          refine wpAnyH_ready (rs := [5]) (by kernel_rfl) (by simp) ?_
          refine (AllReadyH.cons (o := ub2) rfl (fun K hK => ?_) AllReadyH.nil)
          · refine step_ins rfl _ _ _ rfl G 1 ficmp (#[⟨.int .i64 6, ftcp, 0⟩, ⟨.int .i64 17, fudp, 1⟩] : Array MapEntry) 2 (by kernel_rfl) (by kernel_rfl) (by kernel_rfl) hb rfl ?_
            intro W5 hb' gr sz
            have c5 : Below w.heap.size w W5 := c3.grown gr c3.size (fun k hk => by cases hk; exact hG)
            have hL' : G < W5.heap.size := by rw [sz]; exact hL
            clear hb hL sz gr c3
            have hL := hL'
            have hb : W5.heap[G]? = some (.map #[⟨.int .i64 6, ftcp, 0⟩, ⟨.int .i64 17, fudp, 1⟩, ⟨.int .i64 1, ficmp, 2⟩] 3) := hb'
            clear hb' hL'
            refine hK.out _ _ trivial (fun hHeld => ?_)
            clear hK K
            try simp only [Act.put, List.setIfInBounds_toArray, List.set_cons_zero, List.set_cons_succ]
            refine wpAnyH_take (i := 6) (oi := ub1) (v := (.map (some G))) rfl (by kernel_rfl) (by kernel_rfl) (by kernel_rfl) (fun _ _ _ h => h) (Or.inl ⟨by rfl, ?_⟩) hHeld ?_
            · intro w9 hSw
              try dsimp only at hSw
              go_simp
            try simp only [Act.put, List.setIfInBounds_toArray, List.set_cons_zero, List.set_cons_succ]
            refine wpAnyH_take (i := 7) (oi := ub0) (v := (.map (some G))) rfl (by kernel_rfl) (by kernel_rfl) (by kernel_rfl) (fun _ _ _ h => h) (Or.inl ⟨by rfl, ?_⟩) hHeld ?_
            · intro w9 hSw
              try dsimp only at hSw
              go_simp
            try simp only [Act.put, List.setIfInBounds_toArray, List.set_cons_zero, List.set_cons_succ]
            refine wpAnyH_done (by kernel_rfl) ?_ _
            refine NoPanic.normal ?_
            go_wp2
            go_ret
            exact ⟨_, G, rfl, hb, tab_of 1 6 17 1 ftcp fudp ficmp (by decide) (by decide) (by decide) (fun n => tab_4_ABI n), c5⟩
      · go_simp
        refine Calls.mono (KI.out _) ?_
        rintro e W6 ⟨rfl, hW6⟩
        rw [hW6]
        clear hW6 W6
        refine hK.out _ _ trivial (fun hHeld => ?_)
        clear hK K
        try simp only [Act.put, List.setIfInBounds_toArray, List.set_cons_zero, List.set_cons_succ]
        refine wpAnyH_ready (rs := [2, 5]) (by kernel_rfl) (by simp) ?_
        refine (AllReadyH.cons (o := ub3) rfl (fun K hK => ?_) (AllReadyH.cons (o := ub2) rfl (fun K hK => ?_) AllReadyH.nil))
        · refine step_ins rfl _ _ _ rfl G 17 fudp (#[⟨.int .i64 6, ftcp, 0⟩] : Array MapEntry) 1 (by kernel_rfl) (by kernel_rfl) (by kernel_rfl) hb rfl ?_
          intro W7 hb' gr sz
          have c7 : Below w.heap.size w W7 := c2.grown gr c2.size (fun k hk => by cases hk; exact hG)
          have hL' : G < W7.heap.size := by rw [sz]; exact hL
          clear hb hL sz gr c2
          have hL := hL'
          have hb : W7.heap[G]? = some (.map #[⟨.int .i64 6, ftcp, 0⟩, ⟨.int .i64 17, fudp, 1⟩] 2) := hb'
          clear hb' hL'
          refine hK.out _ _ trivial (fun hHeld => ?_)
          clear hK K
          try simp only [Act.put, List.setIfInBounds_toArray, List.set_cons_zero, List.set_cons_succ]
          refine wpAnyH_ready (rs := [5]) (by kernel_rfl) (by simp) ?_
          refine (AllReadyH.cons (o := ub2) rfl (fun K hK => ?_) AllReadyH.nil)
          · refine step_ins rfl _ _ _ rfl G 1 ficmp (#[⟨.int .i64 6, ftcp, 0⟩, ⟨.int .i64 17, fudp, 1⟩] : Array MapEntry) 2 (by kernel_rfl) (by kernel_rfl) (by kernel_rfl) hb rfl ?_
            intro W8 hb' gr sz
            have c8 : Below w.heap.size w W8 := c7.grown gr c7.size (fun k hk => by cases hk; exact hG)
            have hL' : G < W8.heap.size := by rw [sz]; exact hL
            clear hb hL sz gr c7
            have hL := hL'
            have hb : W8.heap[G]? = some (.map #[⟨.int .i64 6, ftcp, 0⟩, ⟨.int .i64 17, fudp, 1⟩, ⟨.int .i64 1, ficmp, 2⟩] 3) := hb'
            clear hb' hL'
            refine hK.out _ _ trivial (fun hHeld => ?_)
            clear hK K
            try simp only [Act.put, List.setIfInBounds_toArray, List.set_cons_zero, List.set_cons_succ]
            refine wpAnyH_take (i := 6) (oi := ub1) (v := (.map (some G))) rfl (by kernel_rfl) (by kernel_rfl) (by kernel_rfl) (fun _ _ _ h => h) (Or.inl ⟨by rfl, ?_⟩) hHeld ?_
            · intro w9 hSw
              try dsimp only at hSw
              go_simp
            try simp only [Act.put, List.setIfInBounds_toArray, List.set_cons_zero, List.set_cons_succ]
            refine wpAnyH_take (i := 7) (oi := ub0) (v := (.map (some G))) rfl (by kernel_rfl) (by kernel_rfl) (by kernel_rfl) (fun _ _ _ h => h) (Or.inl ⟨by rfl, ?_⟩) hHeld ?_
            · intro w9 hSw
              try dsimp only at hSw
              go_simp
            try simp only [Act.put, List.setIfInBounds_toArray, List.set_cons_zero, List.set_cons_succ]
            refine wpAnyH_done (by kernel_rfl) ?_ _
            refine NoPanic.normal ?_
            go_wp2
            go_ret
            exact ⟨_, G, rfl, hb, tab_of 1 6 17 1 ftcp fudp ficmp (by decide) (by decide) (by decide) (fun n => tab_4_ABI n), c8⟩
        · refine step_ins rfl _ _ _ rfl G 1 ficmp (#[⟨.int .i64 6, ftcp, 0⟩] : Array MapEntry) 1 (by kernel_rfl) (by kernel_rfl) (by kernel_rfl) hb rfl ?_
          intro W9 hb' gr sz
          have c9 : Below w.heap.size w W9 := c2.grown gr c2.size (fun k hk => by cases hk; exact hG)
          have hL' : G < W9.heap.size := by rw [sz]; exact hL
          clear hb hL sz gr c2
          have hL := hL'
          have hb : W9.heap[G]? = some (.map #[⟨.int .i64 6, ftcp, 0⟩, ⟨.int .i64 1, ficmp, 1⟩] 2) := hb'
          clear hb' hL'
          refine hK.out _ _ trivial (fun hHeld => ?_)
          clear hK K
          try simp only [Act.put, List.setIfInBounds_toArray, List.set_cons_zero, List.set_cons_succ]
          refine wpAnyH_ready (rs := [2]) (by kernel_rfl) (by simp) ?_
          refine (AllReadyH.cons (o := ub3) rfl (fun K hK => ?_) AllReadyH.nil)
          · refine step_ins rfl _ _ _ rfl G 17 fudp (#[⟨.int .i64 6, ftcp, 0⟩, ⟨.int .i64 1, ficmp, 1⟩] : Array MapEntry) 2 (by kernel_rfl) (by kernel_rfl) (by kernel_rfl) hb rfl ?_
            intro W10 hb' gr sz
            have c10 : Below w.heap.size w W10 := c9.grown gr c9.size (fun k hk => by cases hk; exact hG)
            have hL' : G < W10.heap.size := by rw [sz]; exact hL
            clear hb hL sz gr c9
            have hL := hL'
            have hb : W10.heap[G]? = some (.map #[⟨.int .i64 6, ftcp, 0⟩, ⟨.int .i64 1, ficmp, 1⟩, ⟨.int .i64 17, fudp, 2⟩] 3) := hb'
            clear hb' hL'
            refine hK.out _ _ trivial (fun hHeld => ?_)
            clear hK K
            try simp only [Act.put, List.setIfInBounds_toArray, List.set_cons_zero, List.set_cons_succ]
            refine wpAnyH_take (i := 6) (oi := ub1) (v := (.map (some G))) rfl (by kernel_rfl) (by kernel_rfl) (by kernel_rfl) (fun _ _ _ h => h) (Or.inl ⟨by rfl, ?_⟩) hHeld ?_
            · intro w9 hSw
              try dsimp only at hSw
              go_simp
            try simp only [Act.put, List.setIfInBounds_toArray, List.set_cons_zero, List.set_cons_succ]
            refine wpAnyH_take (i := 7) (oi := ub0) (v := (.map (some G))) rfl (by kernel_rfl) (by kernel_rfl) (by kernel_rfl) (fun _ _ _ h => h) (Or.inl ⟨by rfl, ?_⟩) hHeld ?_
            · intro w9 hSw
              try dsimp only at hSw
              go_simp
            try simp only [Act.put, List.setIfInBounds_toArray, List.set_cons_zero, List.set_cons_succ]
            refine wpAnyH_done (by kernel_rfl) ?_ _
            refine NoPanic.normal ?_
            go_wp2
            go_ret
            exact ⟨_, G, rfl, hb, tab_of 1 6 1 17 ftcp ficmp fudp (by decide) (by decide) (by decide) (fun n => tab_4_AIB n), c10⟩
    · refine step_ins rfl _ _ _ rfl G 17 fudp (#[] : Array MapEntry) 0 (by kernel_rfl) (by kernel_rfl) (by kernel_rfl) hb rfl ?_
      intro W11 hb' gr sz
      have c11 : Below w.heap.size w W11 := c1.grown gr c1.size (fun k hk => by cases hk; exact hG)
      have hL' : G < W11.heap.size := by rw [sz]; exact hL
      clear hb hL sz gr c1
      have hL := hL'
      have hb : W11.heap[G]? = some (.map #[⟨.int .i64 17, fudp, 0⟩] 1) := hb'
      clear hb' hL'
      refine hK.out _ _ trivial (fun hHeld => ?_)
      clear hK K
      try simp only [Act.put, List.setIfInBounds_toArray, List.set_cons_zero, List.set_cons_succ]
      refine wpAnyH_ready (rs := [1, 4]) (by kernel_rfl) (by simp) ?_
      refine (AllReadyH.cons (o := ub4) rfl (fun K hK => ?_) (AllReadyH.cons (o := ub5) rfl (fun K hK => ?_) AllReadyH.nil))
      · refine step_ins rfl _ _ _ rfl G 6 ftcp (#[⟨.int .i64 17, fudp, 0⟩] : Array MapEntry) 1 (by kernel_rfl) (by kernel_rfl) (by kernel_rfl) hb rfl ?_
        intro W12 hb' gr sz
        have c12 : Below w.heap.size w W12 := c11.grown gr c11.size (fun k hk => by cases hk; exact hG)
        have hL' : G < W12.heap.size := by rw [sz]; exact hL
        clear hb hL sz gr c11
        have hL := hL'
        have hb : W12.heap[G]? = some (.map #[⟨.int .i64 17, fudp, 0⟩, ⟨.int .i64 6, ftcp, 1⟩] 2) := hb'
        clear hb' hL'
        refine hK.out _ _ trivial (fun hHeld => ?_)
        clear hK K
        try simp only [Act.put, List.setIfInBounds_toArray, List.set_cons_zero, List.set_cons_succ]
        refine wpAnyH_ready (rs := [4]) (by kernel_rfl) (by simp) ?_
        refine (AllReadyH.cons (o := ub5) rfl (fun K hK => ?_) AllReadyH.nil)
        · go_simp
          refine Calls.mono (KI.out _) ?_
          rintro e W13 ⟨rfl, hW13⟩
          rw [hW13]
          clear hW13 W13
          refine hK.out _ _ trivial (fun hHeld => ?_)
          clear hK K
          try simp only [Act.put, List.setIfInBounds_toArray, List.set_cons_zero, List.set_cons_succ]
          refine wpAnyH_ready (rs := [5]) (by kernel_rfl) (by simp) ?_
          refine (AllReadyH.cons (o := ub2) rfl (fun K hK => ?_) AllReadyH.nil)
          · refine step_ins rfl _ _ _ rfl G 1 ficmp (#[⟨.int .i64 17, fudp, 0⟩, ⟨.int .i64 6, ftcp, 1⟩] : Array MapEntry) 2 (by kernel_rfl) (by kernel_rfl) (by kernel_rfl) hb rfl ?_
            intro W14 hb' gr sz
            have c14 : Below w.heap.size w W14 := c12.grown gr c12.size (fun k hk => by cases hk; exact hG)
            have hL' : G < W14.heap.size := by rw [sz]; exact hL
            clear hb hL sz gr c12
            have hL := hL'
            have hb : W14.heap[G]? = some (.map #[⟨.int .i64 17, fudp, 0⟩, ⟨.int .i64 6, ftcp, 1⟩, ⟨.int .i64 1, ficmp, 2⟩] 3) := hb'
            clear hb' hL'
            refine hK.out _ _ trivial (fun hHeld => ?_)
            clear hK K
            try simp only [Act.put, List.setIfInBounds_toArray, List.set_cons_zero, List.set_cons_succ]
            refine wpAnyH_take (i := 6) (oi := ub1) (v := (.map (some G))) rfl (by kernel_rfl) (by kernel_rfl) (by kernel_rfl) (fun _ _ _ h => h) (Or.inl ⟨by rfl, ?_⟩) hHeld ?_
            · intro w9 hSw
              try dsimp only at hSw
              go_simp
            try simp only [Act.put, List.setIfInBounds_toArray, List.set_cons_zero, List.set_cons_succ]
            refine wpAnyH_take (i := 7) (oi := ub0) (v := (.map (some G))) rfl (by kernel_rfl) (by kernel_rfl) (by kernel_rfl) (fun _ _ _ h => h) (Or.inl ⟨by rfl, ?_⟩) hHeld ?_
            · intro w9 hSw
              try dsimp only at hSw
              go_simp
            try simp only [Act.put, List.setIfInBounds_toArray, List.set_cons_zero, List.set_cons_succ]
            refine wpAnyH_done (by kernel_rfl) ?_ _
            refine NoPanic.normal ?_
            go_wp2
            go_ret
            exact ⟨_, G, rfl, hb, tab_of 1 17 6 1 fudp ftcp ficmp (by decide) (by decide) (by decide) (fun n => tab_4_BAI n), c14⟩
      · go_simp
        refine Calls.mono (KI.out _) ?_
        rintro e W15 ⟨rfl, hW15⟩
        rw [hW15]
        clear hW15 W15
        refine hK.out _ _ trivial (fun hHeld => ?_)
        clear hK K
        try simp only [Act.put, List.setIfInBounds_toArray, List.set_cons_zero, List.set_cons_succ]
        refine wpAnyH_ready (rs := [1, 5]) (by kernel_rfl) (by simp) ?_
        refine (AllReadyH.cons (o := ub4) rfl (fun K hK => ?_) (AllReadyH.cons (o := ub2) rfl (fun K hK => ?_) AllReadyH.nil))
        · refine step_ins rfl _ _ _ rfl G 6 ftcp (#[⟨.int .i64 17, fudp, 0⟩] : Array MapEntry) 1 (by kernel_rfl) (by kernel_rfl) (by kernel_rfl) hb rfl ?_
          intro W16 hb' gr sz
          have c16 : Below w.heap.size w W16 := c11.grown gr c11.size (fun k hk => by cases hk; exact hG)
          have hL' : G < W16.heap.size := by rw [sz]; exact hL
          clear hb hL sz gr c11
          have hL := hL'
          have hb : W16.heap[G]? = some (.map #[⟨.int .i64 17, fudp, 0⟩, ⟨.int .i64 6, ftcp, 1⟩] 2) := hb'
          clear hb' hL'
          refine hK.out _ _ trivial (fun hHeld => ?_)
          clear hK K
          try simp only [Act.put, List.setIfInBounds_toArray, List.set_cons_zero, List.set_cons_succ]
          refine wpAnyH_ready (rs := [5]) (by kernel_rfl) (by simp) ?_
          refine (AllReadyH.cons (o := ub2) rfl (fun K hK => ?_) AllReadyH.nil)
          · refine step_ins rfl _ _ _ rfl G 1 ficmp (#[⟨.int .i64 17, fudp, 0⟩, ⟨.int .i64 6, ftcp, 1⟩] : Array MapEntry) 2 (by kernel_rfl) (by kernel_rfl) (by kernel_rfl) hb rfl ?_
            intro W17 hb' gr sz
            have c17 : Below w.heap.size w W17 := c16.grown gr c16.size (fun k hk => by cases hk; exact hG)
            have hL' : G < W17.heap.size := by rw [sz]; exact hL
            clear hb hL sz gr c16
            have hL := hL'
            have hb : W17.heap[G]? = some (.map #[⟨.int .i64 17, fudp, 0⟩, ⟨.int .i64 6, ftcp, 1⟩, ⟨.int .i64 1, ficmp, 2⟩] 3) := hb'
            clear hb' hL'
            refine hK.out _ _ trivial (fun hHeld => ?_)
            clear hK K
            try simp only [Act.put, List.setIfInBounds_toArray, List.set_cons_zero, List.set_cons_succ]
            refine wpAnyH_take (i := 6) (oi := ub1) (v := (.map (some G))) rfl (by kernel_rfl) (by kernel_rfl) (by kernel_rfl) (fun _ _ _ h => h) (Or.inl ⟨by rfl, ?_⟩) hHeld ?_
            · intro w9 hSw
              try dsimp only at hSw
              go_simp
            try simp only [Act.put, List.setIfInBounds_toArray, List.set_cons_zero, List.set_cons_succ]
            refine wpAnyH_take (i := 7) (oi := ub0) (v := (.map (some G))) rfl (by kernel_rfl) (by kernel_rfl) (by kernel_rfl) (fun _ _ _ h => h) (Or.inl ⟨by rfl, ?_⟩) hHeld ?_
            · intro w9 hSw
              try dsimp only at hSw
              go_simp
            try simp only [Act.put, List.setIfInBounds_toArray, List.set_cons_zero, List.set_cons_succ]
            refine wpAnyH_done (by kernel_rfl) ?_ _
            refine NoPanic.normal ?_
            go_wp2
            go_ret
            exact ⟨_, G, rfl, hb, tab_of 1 17 6 1 fudp ftcp ficmp (by decide) (by decide) (by decide) (fun n => tab_4_BAI n), c17⟩
        · refine step_ins rfl _ _ _ rfl G 1 ficmp (#[⟨.int .i64 17, fudp, 0⟩] : Array MapEntry) 1 (by kernel_rfl) (by kernel_rfl) (by kernel_rfl) hb rfl ?_
          intro W18 hb' gr sz
          have c18 : Below w.heap.size w W18 := c11.grown gr c11.size (fun k hk => by cases hk; exact hG)
          have hL' : G < W18.heap.size := by rw [sz]; exact hL
          clear hb hL sz gr c11
          have hL := hL'
          have hb : W18.heap[G]? = some (.map #[⟨.int .i64 17, fudp, 0⟩, ⟨.int .i64 1, ficmp, 1⟩] 2) := hb'
          clear hb' hL'
          refine hK.out _ _ trivial (fun hHeld => ?_)
          clear hK K
          try simp only [Act.put, List.setIfInBounds_toArray, List.set_cons_zero, List.set_cons_succ]
          refine wpAnyH_ready (rs := [1]) (by kernel_rfl) (by simp) ?_
          refine (AllReadyH.cons (o := ub4) rfl (fun K hK => ?_) AllReadyH.nil)
          · refine step_ins rfl _ _ _ rfl G 6 ftcp (#[⟨.int .i64 17, fudp, 0⟩, ⟨.int .i64 1, ficmp, 1⟩] : Array MapEntry) 2 (by kernel_rfl) (by kernel_rfl) (by kernel_rfl) hb rfl ?_
            intro W19 hb' gr sz
            have c19 : Below w.heap.size w W19 := c18.grown gr c18.size (fun k hk => by cases hk; exact hG)
            have hL' : G < W19.heap.size := by rw [sz]; exact hL
            clear hb hL sz gr c18
            have hL := hL'
            have hb : W19.heap[G]? = some (.map #[⟨.int .i64 17, fudp, 0⟩, ⟨.int .i64 1, ficmp, 1⟩, ⟨.int .i64 6, ftcp, 2⟩] 3) := hb'
            clear hb' hL'
            refine hK.out _ _ trivial (fun hHeld => ?_)
            clear hK K
            try simp only [Act.put, List.setIfInBounds_toArray, List.set_cons_zero, List.set_cons_succ]
            refine wpAnyH_take (i := 6) (oi := ub1) (v := (.map (some G))) rfl (by kernel_rfl) (by kernel_rfl) (by kernel_rfl) (fun _ _ _ h => h) (Or.inl ⟨by rfl, ?_⟩) hHeld ?_
            · intro w9 hSw
              try dsimp only at hSw
              go_simp
            try simp only [Act.put, List.setIfInBounds_toArray, List.set_cons_zero, List.set_cons_succ]
            refine wpAnyH_take (i := 7) (oi := ub0) (v := (.map (some G))) rfl (by kernel_rfl) (by kernel_rfl) (by kernel_rfl) (fun _ _ _ h => h) (Or.inl ⟨by rfl, ?_⟩) hHeld ?_
            · intro w9 hSw
              try dsimp only at hSw
              go_simp
            try simp only [Act.put, List.setIfInBounds_toArray, List.set_cons_zero, List.set_cons_succ]
            refine wpAnyH_done (by kernel_rfl) ?_ _
            refine NoPanic.normal ?_
            go_wp2
            go_ret
            exact ⟨_, G, rfl, hb, tab_of 1 17 1 6 fudp ficmp ftcp (by decide) (by decide) (by decide) (fun n => tab_4_BIA n), c19⟩
    · go_simp
      refine Calls.mono (KI.out _) ?_
      rintro e W20 ⟨rfl, hW20⟩
      rw [hW20]
      clear hW20 W20
      refine hK.out _ _ trivial (fun hHeld => ?_)
      clear hK K
      try simp only [Act.put, List.setIfInBounds_toArray, List.set_cons_zero, List.set_cons_succ]
      refine wpAnyH_ready (rs := [1, 2, 5]) (by kernel_rfl) (by simp) ?_
      refine (AllReadyH.cons (o := ub4) rfl (fun K hK => ?_) (AllReadyH.cons (o := ub3) rfl (fun K hK => ?_) (AllReadyH.cons (o := ub2) rfl (fun K hK => ?_) AllReadyH.nil)))
      · refine step_ins rfl _ _ _ rfl G 6 ftcp (#[] : Array MapEntry) 0 (by kernel_rfl) (by kernel_rfl) (by kernel_rfl) hb rfl ?_
        intro W21 hb' gr sz
        have c21 : Below w.heap.size w W21 := c1.grown gr c1.size (fun k hk => by cases hk; exact hG)
        have hL' : G < W21.heap.size := by rw [sz]; exact hL
        clear hb hL sz gr c1
        have hL := hL'
        have hb : W21.heap[G]? = some (.map #[⟨.int .i64 6, ftcp, 0⟩] 1) := hb'
        clear hb' hL'
        refine hK.out _ _ trivial (fun hHeld => ?_)
        clear hK K
        try simp only [Act.put, List.setIfInBounds_toArray, List.set_cons_zero, List.set_cons_succ]
        refine wpAnyH_ready (rs := [2, 5]) (by kernel_rfl) (by simp) ?_
        refine (AllReadyH.cons (o := ub3) rfl (fun K hK => ?_) (AllReadyH.cons (o := ub2) rfl (fun K hK => ?_) AllReadyH.nil))
        · refine step_ins rfl _ _ _ rfl G 17 fudp (#[⟨.int .i64 6, ftcp, 0⟩] : Array MapEntry) 1 (by kernel_rfl) (by kernel_rfl) (by kernel_rfl) hb rfl ?_
          intro W22 hb' gr sz
          have c22 : Below w.heap.size w W22 := c21.grown gr c21.size (fun k hk => by cases hk; exact hG)
          have hL' : G < W22.heap.size := by rw [sz]; exact hL
          clear hb hL sz gr c21
          have hL := hL'
          have hb : W22.heap[G]? = some (.map #[⟨.int .i64 6, ftcp, 0⟩, ⟨.int .i64 17, fudp, 1⟩] 2) := hb'
          clear hb' hL'
          refine hK.out _ _ trivial (fun hHeld => ?_)
          clear hK K
          try simp only [Act.put, List.setIfInBounds_toArray, List.set_cons_zero, List.set_cons_succ]
          refine wpAnyH_ready (rs := [5]) (by kernel_rfl) (by simp) ?_
          refine (AllReadyH.cons (o := ub2) rfl (fun K hK => ?_) AllReadyH.nil)
          · refine step_ins rfl _ _ _ rfl G 1 ficmp (#[⟨.int .i64 6, ftcp, 0⟩, ⟨.int .i64 17, fudp, 1⟩] : Array MapEntry) 2 (by kernel_rfl) (by kernel_rfl) (by kernel_rfl) hb rfl ?_
            intro W23 hb' gr sz
            have c23 : Below w.heap.size w W23 := c22.grown gr c22.size (fun k hk => by cases hk; exact hG)
            have hL' : G < W23.heap.size := by rw [sz]; exact hL
            clear hb hL sz gr c22
            have hL := hL'
            have hb : W23.heap[G]? = some (.map #[⟨.int .i64 6, ftcp, 0⟩, ⟨.int .i64 17, fudp, 1⟩, ⟨.int .i64 1, ficmp, 2⟩] 3) := hb'
            clear hb' hL'
            refine hK.out _ _ trivial (fun hHeld => ?_)
            clear hK K
            try simp only [Act.put, List.setIfInBounds_toArray, List.set_cons_zero, List.set_cons_succ]
            refine wpAnyH_take (i := 6) (oi := ub1) (v := (.map (some G))) rfl (by kernel_rfl) (by kernel_rfl) (by kernel_rfl) (fun _ _ _ h => h) (Or.inl ⟨by rfl, ?_⟩) hHeld ?_
            · intro w9 hSw
              try dsimp only at hSw
              go_simp
            try simp only [Act.put, List.setIfInBounds_toArray, List.set_cons_zero, List.set_cons_succ]
            refine wpAnyH_take (i := 7) (oi := ub0) (v := (.map (some G))) rfl (by kernel_rfl) (by kernel_rfl) (by kernel_rfl) (fun _ _ _ h => h) (Or.inl ⟨by rfl, ?_⟩) hHeld ?_
            · intro w9 hSw
              try dsimp only at hSw
              go_simp
            try simp only [Act.put, List.setIfInBounds_toArray, List.set_cons_zero, List.set_cons_succ]
            refine wpAnyH_done (by kernel_rfl) ?_ _
            refine NoPanic.normal ?_
            go_wp2
            go_ret
            exact ⟨_, G, rfl, hb, tab_of 1 6 17 1 ftcp fudp ficmp (by decide) (by decide) (by decide) (fun n => tab_4_ABI n), c23⟩
        · refine step_ins rfl _ _ _ rfl G 1 ficmp (#[⟨.int .i64 6, ftcp, 0⟩] : Array MapEntry) 1 (by kernel_rfl) (by kernel_rfl) (by kernel_rfl) hb rfl ?_
          intro W24 hb' gr sz
          have c24 : Below w.heap.size w W24 := c21.grown gr c21.size (fun k hk => by cases hk; exact hG)
          have hL' : G < W24.heap.size := by rw [sz]; exact hL
          clear hb hL sz gr c21
          have hL := hL'
          have hb : W24.heap[G]? = some (.map #[⟨.int .i64 6, ftcp, 0⟩, ⟨.int .i64 1, ficmp, 1⟩] 2) := hb'
          clear hb' hL'
          refine hK.out _ _ trivial (fun hHeld => ?_)
          clear hK K
          try simp only [Act.put, List.setIfInBounds_toArray, List.set_cons_zero, List.set_cons_succ]
          refine wpAnyH_ready (rs := [2]) (by kernel_rfl) (by simp) ?_
          refine (AllReadyH.cons (o := ub3) rfl (fun K hK => ?_) AllReadyH.nil)
          · refine step_ins rfl _ _ _ rfl G 17 fudp (#[⟨.int .i64 6, ftcp, 0⟩, ⟨.int .i64 1, ficmp, 1⟩] : Array MapEntry) 2 (by kernel_rfl) (by kernel_rfl) (by kernel_rfl) hb rfl ?_
            intro W25 hb' gr sz
            have c25 : Below w.heap.size w W25 := c24.grown gr c24.size (fun k hk => by cases hk; exact hG)
            have hL' : G < W25.heap.size := by rw [sz]; exact hL
            clear hb hL sz gr c24
            have hL := hL'
            have hb : W25.heap[G]? = some (.map #[⟨.int .i64 6, ftcp, 0⟩, ⟨.int .i64 1, ficmp, 1⟩, ⟨.int .i64 17, fudp, 2⟩] 3) := hb'
            clear hb' hL'
            refine hK.out _ _ trivial (fun hHeld => ?_)
            clear hK K
            try simp only [Act.put, List.setIfInBounds_toArray, List.set_cons_zero, List.set_cons_succ]
            refine wpAnyH_take (i := 6) (oi := ub1) (v := (.map (some G))) rfl (by kernel_rfl) (by kernel_rfl) (by kernel_rfl) (fun _ _ _ h => h) (Or.inl ⟨by rfl, ?_⟩) hHeld ?_
            · intro w9 hSw
              try dsimp only at hSw
              go_simp
            try simp only [Act.put, List.setIfInBounds_toArray, List.set_cons_zero, List.set_cons_succ]
            refine wpAnyH_take (i := 7) (oi := ub0) (v := (.map (some G))) rfl (by kernel_rfl) (by kernel_rfl) (by kernel_rfl) (fun _ _ _ h => h) (Or.inl ⟨by rfl, ?_⟩) hHeld ?_
            · intro w9 hSw
              try dsimp only at hSw
              go_simp
            try simp only [Act.put, List.setIfInBounds_toArray, List.set_cons_zero, List.set_cons_succ]
            refine wpAnyH_done (by kernel_rfl) ?_ _
            refine NoPanic.normal ?_
            go_wp2
            go_ret
            exact ⟨_, G, rfl, hb, tab_of 1 6 1 17 ftcp ficmp fudp (by decide) (by decide) (by decide) (fun n => tab_4_AIB n), c25⟩
      · refine step_ins rfl _ _ _ rfl G 17 fudp (#[] : Array MapEntry) 0 (by kernel_rfl) (by kernel_rfl) (by kernel_rfl) hb rfl ?_
        intro W26 hb' gr sz
        have c26 : Below w.heap.size w W26 := c1.grown gr c1.size (fun k hk => by cases hk; exact hG)
        have hL' : G < W26.heap.size := by rw [sz]; exact hL
        clear hb hL sz gr c1
        have hL := hL'
        have hb : W26.heap[G]? = some (.map #[⟨.int .i64 17, fudp, 0⟩] 1) := hb'
        clear hb' hL'
        refine hK.out _ _ trivial (fun hHeld => ?_)
        clear hK K
        try simp only [Act.put, List.setIfInBounds_toArray, List.set_cons_zero, List.set_cons_succ]
        refine wpAnyH_ready (rs := [1, 5]) (by kernel_rfl) (by simp) ?_
        refine (AllReadyH.cons (o := ub4) rfl (fun K hK => ?_) (AllReadyH.cons (o := ub2) rfl (fun K hK => ?_) AllReadyH.nil))
        · refine step_ins rfl _ _ _ rfl G 6 ftcp (#[⟨.int .i64 17, fudp, 0⟩] : Array MapEntry) 1 (by kernel_rfl) (by kernel_rfl) (by kernel_rfl) hb rfl ?_
          intro W27 hb' gr sz
          have c27 : Below w.heap.size w W27 := c26.grown gr c26.size (fun k hk => by cases hk; exact hG)
          have hL' : G < W27.heap.size := by rw [sz]; exact hL
          clear hb hL sz gr c26
          have hL := hL'
          have hb : W27.heap[G]? = some (.map #[⟨.int .i64 17, fudp, 0⟩, ⟨.int .i64 6, ftcp, 1⟩] 2) := hb'
          clear hb' hL'
          refine hK.out _ _ trivial (fun hHeld => ?_)
          clear hK K
          try simp only [Act.put, List.setIfInBounds_toArray, List.set_cons_zero, List.set_cons_succ]
          refine wpAnyH_ready (rs := [5]) (by kernel_rfl) (by simp) ?_
          refine (AllReadyH.cons (o := ub2) rfl (fun K hK => ?_) AllReadyH.nil)
          · refine step_ins rfl _ _ _ rfl G 1 ficmp (#[⟨.int .i64 17, fudp, 0⟩, ⟨.int .i64 6, ftcp, 1⟩] : Array MapEntry) 2 (by kernel_rfl) (by kernel_rfl) (by kernel_rfl) hb rfl ?_
            intro W28 hb' gr sz
            have c28 : Below w.heap.size w W28 := c27.grown gr c27.size (fun k hk => by cases hk; exact hG)
            have hL' : G < W28.heap.size := by rw [sz]; exact hL
            clear hb hL sz gr c27
            have hL := hL'
            have hb : W28.heap[G]? = some (.map #[⟨.int .i64 17, fudp, 0⟩, ⟨.int .i64 6, ftcp, 1⟩, ⟨.int .i64 1, ficmp, 2⟩] 3) := hb'
            clear hb' hL'
            refine hK.out _ _ trivial (fun hHeld => ?_)
            clear hK K
            try simp only [Act.put, List.setIfInBounds_toArray, List.set_cons_zero, List.set_cons_succ]
            refine wpAnyH_take (i := 6) (oi := ub1) (v := (.map (some G))) rfl (by kernel_rfl) (by kernel_rfl) (by kernel_rfl) (fun _ _ _ h => h) (Or.inl ⟨by rfl, ?_⟩) hHeld ?_
            · intro w9 hSw
              try dsimp only at hSw
              go_simp
            try simp only [Act.put, List.setIfInBounds_toArray, List.set_cons_zero, List.set_cons_succ]
            refine wpAnyH_take (i := 7) (oi := ub0) (v := (.map (some G))) rfl (by kernel_rfl) (by kernel_rfl) (by kernel_rfl) (fun _ _ _ h => h) (Or.inl ⟨by rfl, ?_⟩) hHeld ?_
            · intro w9 hSw
              try dsimp only at hSw
              go_simp
            try simp only [Act.put, List.setIfInBounds_toArray, List.set_cons_zero, List.set_cons_succ]
            refine wpAnyH_done (by kernel_rfl) ?_ _
            refine NoPanic.normal ?_
            go_wp2
            go_ret
            exact ⟨_, G, rfl, hb, tab_of 1 17 6 1 fudp ftcp ficmp (by decide) (by decide) (by decide) (fun n => tab_4_BAI n), c28⟩
        · refine step_ins rfl _ _ _ rfl G 1 ficmp (#[⟨.int .i64 17, fudp, 0⟩] : Array MapEntry) 1 (by kernel_rfl) (by kernel_rfl) (by kernel_rfl) hb rfl ?_
          intro W29 hb' gr sz
          have c29 : Below w.heap.size w W29 := c26.grown gr c26.size (fun k hk => by cases hk; exact hG)
          have hL' : G < W29.heap.size := by rw [sz]; exact hL
          clear hb hL sz gr c26
          have hL := hL'
          have hb : W29.heap[G]? = some (.map #[⟨.int .i64 17, fudp, 0⟩, ⟨.int .i64 1, ficmp, 1⟩] 2) := hb'
          clear hb' hL'
          refine hK.out _ _ trivial (fun hHeld => ?_)
          clear hK K
          try simp only [Act.put, List.setIfInBounds_toArray, List.set_cons_zero, List.set_cons_succ]
          refine wpAnyH_ready (rs := [1]) (by kernel_rfl) (by simp) ?_
          refine (AllReadyH.cons (o := ub4) rfl (fun K hK => ?_) AllReadyH.nil)
          · refine step_ins rfl _ _ _ rfl G 6 ftcp (#[⟨.int .i64 17, fudp, 0⟩, ⟨.int .i64 1, ficmp, 1⟩] : Array MapEntry) 2 (by kernel_rfl) (by kernel_rfl) (by kernel_rfl) hb rfl ?_
            intro W30 hb' gr sz
            have c30 : Below w.heap.size w W30 := c29.grown gr c29.size (fun k hk => by cases hk; exact hG)
            have hL' : G < W30.heap.size := by rw [sz]; exact hL
            clear hb hL sz gr c29
            have hL := hL'
            have hb : W30.heap[G]? = some (.map #[⟨.int .i64 17, fudp, 0⟩, ⟨.int .i64 1, ficmp, 1⟩, ⟨.int .i64 6, ftcp, 2⟩] 3) := hb'
            clear hb' hL'
            refine hK.out _ _ trivial (fun hHeld => ?_)
            clear hK K
            try simp only [Act.put, List.setIfInBounds_toArray, List.set_cons_zero, List.set_cons_succ]
            refine wpAnyH_take (i := 6) (oi := ub1) (v := (.map (some G))) rfl (by kernel_rfl) (by kernel_rfl) (by kernel_rfl) (fun _ _ _ h => h) (Or.inl ⟨by rfl, ?_⟩) hHeld ?_
            · intro w9 hSw
              try dsimp only at hSw
              go_simp
            try simp only [Act.put, List.setIfInBounds_toArray, List.set_cons_zero, List.set_cons_succ]
            refine wpAnyH_take (i := 7) (oi := ub0) (v := (.map (some G))) rfl (by kernel_rfl) (by kernel_rfl) (by kernel_rfl) (fun _ _ _ h => h) (Or.inl ⟨by rfl, ?_⟩) hHeld ?_
            · intro w9 hSw
              try dsimp only at hSw
              go_simp
            try simp only [Act.put, List.setIfInBounds_toArray, List.set_cons_zero, List.set_cons_succ]
            refine wpAnyH_done (by kernel_rfl) ?_ _
            refine NoPanic.normal ?_
            go_wp2
            go_ret
            exact ⟨_, G, rfl, hb, tab_of 1 17 1 6 fudp ficmp ftcp (by decide) (by decide) (by decide) (fun n => tab_4_BIA n), c30⟩
      · refine step_ins rfl _ _ _ rfl G 1 ficmp (#[] : Array MapEntry) 0 (by kernel_rfl) (by kernel_rfl) (by kernel_rfl) hb rfl ?_
        intro W31 hb' gr sz
        have c31 : Below w.heap.size w W31 := c1.grown gr c1.size (fun k hk => by cases hk; exact hG)
        have hL' : G < W31.heap.size := by rw [sz]; exact hL
        clear hb hL sz gr c1
        have hL := hL'
        have hb : W31.heap[G]? = some (.map #[⟨.int .i64 1, ficmp, 0⟩] 1) := hb'
        clear hb' hL'
        refine hK.out _ _ trivial (fun hHeld => ?_)
        clear hK K
        try simp only [Act.put, List.setIfInBounds_toArray, List.set_cons_zero, List.set_cons_succ]
        refine wpAnyH_ready (rs := [1, 2]) (by kernel_rfl) (by simp) ?_
        refine (AllReadyH.cons (o := ub4) rfl (fun K hK => ?_) (AllReadyH.cons (o := ub3) rfl (fun K hK => ?_) AllReadyH.nil))
        · refine step_ins rfl _ _ _ rfl G 6 ftcp (#[⟨.int .i64 1, ficmp, 0⟩] : Array MapEntry) 1 (by kernel_rfl) (by kernel_rfl) (by kernel_rfl) hb rfl ?_
          intro W32 hb' gr sz
          have c32 : Below w.heap.size w W32 := c31.grown gr c31.size (fun k hk => by cases hk; exact hG)
          have hL' : G < W32.heap.size := by rw [sz]; exact hL
          clear hb hL sz gr c31
          have hL := hL'
          have hb : W32.heap[G]? = some (.map #[⟨.int .i64 1, ficmp, 0⟩, ⟨.int .i64 6, ftcp, 1⟩] 2) := hb'
          clear hb' hL'
          refine hK.out _ _ trivial (fun hHeld => ?_)
          clear hK K
          try simp only [Act.put, List.setIfInBounds_toArray, List.set_cons_zero, List.set_cons_succ]
          refine wpAnyH_ready (rs := [2]) (by kernel_rfl) (by simp) ?_
          refine (AllReadyH.cons (o := ub3) rfl (fun K hK => ?_) AllReadyH.nil)
          · refine step_ins rfl _ _ _ rfl G 17 fudp (#[⟨.int .i64 1, ficmp, 0⟩, ⟨.int .i64 6, ftcp, 1⟩] : Array MapEntry) 2 (by kernel_rfl) (by kernel_rfl) (by kernel_rfl) hb rfl ?_
            intro W33 hb' gr sz
            have c33 : Below w.heap.size w W33 := c32.grown gr c32.size (fun k hk => by cases hk; exact hG)
            have hL' : G < W33.heap.size := by rw [sz]; exact hL
            clear hb hL sz gr c32
            have hL := hL'
            have hb : W33.heap[G]? = some (.map #[⟨.int .i64 1, ficmp, 0⟩, ⟨.int .i64 6, ftcp, 1⟩, ⟨.int .i64 17, fudp, 2⟩] 3) := hb'
            clear hb' hL'
            refine hK.out _ _ trivial (fun hHeld => ?_)
            clear hK K
            try simp only [Act.put, List.setIfInBounds_toArray, List.set_cons_zero, List.set_cons_succ]
            refine wpAnyH_take (i := 6) (oi := ub1) (v := (.map (some G))) rfl (by kernel_rfl) (by kernel_rfl) (by kernel_rfl) (fun _ _ _ h => h) (Or.inl ⟨by rfl, ?_⟩) hHeld ?_
            · intro w9 hSw
              try dsimp only at hSw
              go_simp
            try simp only [Act.put, List.setIfInBounds_toArray, List.set_cons_zero, List.set_cons_succ]
            refine wpAnyH_take (i := 7) (oi := ub0) (v := (.map (some G))) rfl (by kernel_rfl) (by kernel_rfl) (by kernel_rfl) (fun _ _ _ h => h) (Or.inl ⟨by rfl, ?_⟩) hHeld ?_
            · intro w9 hSw
              try dsimp only at hSw
              go_simp
            try simp only [Act.put, List.setIfInBounds_toArray, List.set_cons_zero, List.set_cons_succ]
            refine wpAnyH_done (by kernel_rfl) ?_ _
            refine NoPanic.normal ?_
            go_wp2
            go_ret
            exact ⟨_, G, rfl, hb, tab_of 1 1 6 17 ficmp ftcp fudp (by decide) (by decide) (by decide) (fun n => tab_4_IAB n), c33⟩
        · refine step_ins rfl _ _ _ rfl G 17 fudp (#[⟨.int .i64 1, ficmp, 0⟩] : Array MapEntry) 1 (by kernel_rfl) (by kernel_rfl) (by kernel_rfl) hb rfl ?_
          intro W34 hb' gr sz
          have c34 : Below w.heap.size w W34 := c31.grown gr c31.size (fun k hk => by cases hk; exact hG)
          have hL' : G < W34.heap.size := by rw [sz]; exact hL
          clear hb hL sz gr c31
          have hL := hL'
          have hb : W34.heap[G]? = some (.map #[⟨.int .i64 1, ficmp, 0⟩, ⟨.int .i64 17, fudp, 1⟩] 2) := hb'
          clear hb' hL'
          refine hK.out _ _ trivial (fun hHeld => ?_)
          clear hK K
          try simp only [Act.put, List.setIfInBounds_toArray, List.set_cons_zero, List.set_cons_succ]
          refine wpAnyH_ready (rs := [1]) (by kernel_rfl) (by simp) ?_
          refine (AllReadyH.cons (o := ub4) rfl (fun K hK => ?_) AllReadyH.nil)
          · refine step_ins rfl _ _ _ rfl G 6 ftcp (#[⟨.int .i64 1, ficmp, 0⟩, ⟨.int .i64 17, fudp, 1⟩] : Array MapEntry) 2 (by kernel_rfl) (by kernel_rfl) (by kernel_rfl) hb rfl ?_
            intro W35 hb' gr sz
            have c35 : Below w.heap.size w W35 := c34.grown gr c34.size (fun k hk => by cases hk; exact hG)
            have hL' : G < W35.heap.size := by rw [sz]; exact hL
            clear hb hL sz gr c34
            have hL := hL'
            have hb : W35.heap[G]? = some (.map #[⟨.int .i64 1, ficmp, 0⟩, ⟨.int .i64 17, fudp, 1⟩, ⟨.int .i64 6, ftcp, 2⟩] 3) := hb'
            clear hb' hL'
            refine hK.out _ _ trivial (fun hHeld => ?_)
            clear hK K
            try simp only [Act.put, List.setIfInBounds_toArray, List.set_cons_zero, List.set_cons_succ]
            refine wpAnyH_take (i := 6) (oi := ub1) (v := (.map (some G))) rfl (by kernel_rfl) (by kernel_rfl) (by kernel_rfl) (fun _ _ _ h => h) (Or.inl ⟨by rfl, ?_⟩) hHeld ?_
            · intro w9 hSw
              try dsimp only at hSw
              go_simp
            try simp only [Act.put, List.setIfInBounds_toArray, List.set_cons_zero, List.set_cons_succ]
            refine wpAnyH_take (i := 7) (oi := ub0) (v := (.map (some G))) rfl (by kernel_rfl) (by kernel_rfl) (by kernel_rfl) (fun _ _ _ h => h) (Or.inl ⟨by rfl, ?_⟩) hHeld ?_
            · intro w9 hSw
              try dsimp only at hSw
              go_simp
            try simp only [Act.put, List.setIfInBounds_toArray, List.set_cons_zero, List.set_cons_succ]
            refine wpAnyH_done (by kernel_rfl) ?_ _
            refine NoPanic.normal ?_
            go_wp2
            go_ret
            exact ⟨_, G, rfl, hb, tab_of 1 1 17 6 ficmp fudp ftcp (by decide) (by decide) (by decide) (fun n => tab_4_IBA n), c35⟩
  · go_simp
    refine Calls.mono (KI.out _) ?_
    rintro e W36 ⟨rfl, hW36⟩
    rw [hW36]
    clear hW36 W36
    refine hK.out _ _ trivial (fun hHeld => ?_)
    clear hK K
    try simp only [Act.put, List.setIfInBounds_toArray, List.set_cons_zero, List.set_cons_succ]
    refine wpAnyH_ready (rs := [0]) (by kernel_rfl) (by simp) ?_
    refine (AllReadyH.cons (o := ub8) rfl (fun K hK => ?_) AllReadyH.nil)
    · refine step_mk rfl _ rfl ?_
      have hb := World.heap_new W0 (.map #[] 0)
      have c37 := c0.alloc c0.size (.map #[] 0)
      have hG : w.heap.size ≤ W0.heap.size := c0.size
      have hL : W0.heap.size < (W0.alloc (.map #[] 0)).heap.size := by simp
      refine hK.out _ _ trivial (fun hHeld => ?_)
      clear hK K
      generalize W0.alloc (.map #[] 0) = W37 at *
      generalize W0.heap.size = G at *
      try simp only [Act.put, List.setIfInBounds_toArray, List.set_cons_zero, List.set_cons_succ]
      refine wpAnyH_ready (rs := [1, 2, 5]) (by kernel_rfl) (by simp) ?_
      refine (AllReadyH.cons (o := ub4) rfl (fun K hK => ?_) (AllReadyH.cons (o := ub3) rfl (fun K hK => ?_) (AllReadyH.cons (o := ub2) rfl (fun K hK => ?_) AllReadyH.nil)))
      · refine step_ins rfl _ _ _ rfl G 6 ftcp (#[] : Array MapEntry) 0 (by kernel_rfl) (by kernel_rfl) (by kernel_rfl) hb rfl ?_
        intro W38 hb' gr sz
        have c38 : Below w.heap.size w W38 := c37.grown gr c37.size (fun k hk => by cases hk; exact hG)
        have hL' : G < W38.heap.size := by rw [sz]; exact hL
        clear hb hL sz gr c37
        have hL := hL'
        have hb : W38.heap[G]? = some (.map #[⟨.int .i64 6, ftcp, 0⟩] 1) := hb'
        clear hb' hL'
        refine hK.out _ _ trivial (fun hHeld => ?_)
        clear hK K
        try simp only [Act.put, List.setIfInBounds_toArray, List.set_cons_zero, List.set_cons_succ]
        refine wpAnyH_ready (rs := [2, 5]) (by kernel_rfl) (by simp) ?_
        refine (AllReadyH.cons (o := ub3) rfl (fun K hK => ?_) (AllReadyH.cons (o := ub2) rfl (fun K hK => ?_) AllReadyH.nil))
        · refine step_ins rfl _ _ _ rfl G 17 fudp (#[⟨.int .i64 6, ftcp, 0⟩] : Array MapEntry) 1 (by kernel_rfl) (by kernel_rfl) (by kernel_rfl) hb rfl ?_
          intro W39 hb' gr sz
          have c39 : Below w.heap.size w W39 := c38.grown gr c38.size (fun k hk => by cases hk; exact hG)
          have hL' : G < W39.heap.size := by rw [sz]; exact hL
          clear hb hL sz gr c38
          have hL := hL'
          have hb : W39.heap[G]? = some (.map #[⟨.int .i64 6, ftcp, 0⟩, ⟨.int .i64 17, fudp, 1⟩] 2) := hb'
          clear hb' hL'
          refine hK.out _ _ trivial (fun hHeld => ?_)
          clear hK K
          try simp only [Act.put, List.setIfInBounds_toArray, List.set_cons_zero, List.set_cons_succ]
          refine wpAnyH_ready (rs := [5]) (by kernel_rfl) (by simp) ?_
          refine (AllReadyH.cons (o := ub2) rfl (fun K hK => ?_) AllReadyH.nil)
          · refine step_ins rfl _ _ _ rfl G 1 ficmp (#[⟨.int .i64 6, ftcp, 0⟩, ⟨.int .i64 17, fudp, 1⟩] : Array MapEntry) 2 (by kernel_rfl) (by kernel_rfl) (by kernel_rfl) hb rfl ?_
            intro W40 hb' gr sz
            have c40 : Below w.heap.size w W40 := c39.grown gr c39.size (fun k hk => by cases hk; exact hG)
            have hL' : G < W40.heap.size := by rw [sz]; exact hL
            clear hb hL sz gr c39
            have hL := hL'
            have hb : W40.heap[G]? = some (.map #[⟨.int .i64 6, ftcp, 0⟩, ⟨.int .i64 17, fudp, 1⟩, ⟨.int .i64 1, ficmp, 2⟩] 3) := hb'
            clear hb' hL'
            refine hK.out _ _ trivial (fun hHeld => ?_)
            clear hK K
            try simp only [Act.put, List.setIfInBounds_toArray, List.set_cons_zero, List.set_cons_succ]
            refine wpAnyH_take (i := 6) (oi := ub1) (v := (.map (some G))) rfl (by kernel_rfl) (by kernel_rfl) (by kernel_rfl) (fun _ _ _ h => h) (Or.inl ⟨by rfl, ?_⟩) hHeld ?_
            · intro w9 hSw
              try dsimp only at hSw
              go_simp
            try simp only [Act.put, List.setIfInBounds_toArray, List.set_cons_zero, List.set_cons_succ]
            refine wpAnyH_take (i := 7) (oi := ub0) (v := (.map (some G))) rfl (by kernel_rfl) (by kernel_rfl) (by kernel_rfl) (fun _ _ _ h => h) (Or.inl ⟨by rfl, ?_⟩) hHeld ?_
            · intro w9 hSw
              try dsimp only at hSw
              go_simp
            try simp only [Act.put, List.setIfInBounds_toArray, List.set_cons_zero, List.set_cons_succ]
            refine wpAnyH_done (by kernel_rfl) ?_ _
            refine NoPanic.normal ?_
            go_wp2
            go_ret
            exact ⟨_, G, rfl, hb, tab_of 1 6 17 1 ftcp fudp ficmp (by decide) (by decide) (by decide) (fun n => tab_4_ABI n), c40⟩
        · refine step_ins rfl _ _ _ rfl G 1 ficmp (#[⟨.int .i64 6, ftcp, 0⟩] : Array MapEntry) 1 (by kernel_rfl) (by kernel_rfl) (by kernel_rfl) hb rfl ?_
          intro W41 hb' gr sz
          have c41 : Below w.heap.size w W41 := c38.grown gr c38.size (fun k hk => by cases hk; exact hG)
          have hL' : G < W41.heap.size := by rw [sz]; exact hL
          clear hb hL sz gr c38
          have hL := hL'
          have hb : W41.heap[G]? = some (.map #[⟨.int .i64 6, ftcp, 0⟩, ⟨.int .i64 1, ficmp, 1⟩] 2) := hb'
          clear hb' hL'
          refine hK.out _ _ trivial (fun hHeld => ?_)
          clear hK K
          try simp only [Act.put, List.setIfInBounds_toArray, List.set_cons_zero, List.set_cons_succ]
          refine wpAnyH_ready (rs := [2]) (by kernel_rfl) (by simp) ?_
          refine (AllReadyH.cons (o := ub3) rfl (fun K hK => ?_) AllReadyH.nil)
          · refine step_ins rfl _ _ _ rfl G 17 fudp (#[⟨.int .i64 6, ftcp, 0⟩, ⟨.int .i64 1, ficmp, 1⟩] : Array MapEntry) 2 (by kernel_rfl) (by kernel_rfl) (by kernel_rfl) hb rfl ?_
            intro W42 hb' gr sz
            have c42 : Below w.heap.size w W42 := c41.grown gr c41.size (fun k hk => by cases hk; exact hG)
            have hL' : G < W42.heap.size := by rw [sz]; exact hL
            clear hb hL sz gr c41
            have hL := hL'
            have hb : W42.heap[G]? = some (.map #[⟨.int .i64 6, ftcp, 0⟩, ⟨.int .i64 1, ficmp, 1⟩, ⟨.int .i64 17, fudp, 2⟩] 3) := hb'
            clear hb' hL'
            refine hK.out _ _ trivial (fun hHeld => ?_)
            clear hK K
            try simp only [Act.put, List.setIfInBounds_toArray, List.set_cons_zero, List.set_cons_succ]
            refine wpAnyH_take (i := 6) (oi := ub1) (v := (.map (some G))) rfl (by kernel_rfl) (by kernel_rfl) (by kernel_rfl) (fun _ _ _ h => h) (Or.inl ⟨by rfl, ?_⟩) hHeld ?_
            · intro w9 hSw
              try dsimp only at hSw
              go_simp
            try simp only [Act.put, List.setIfInBounds_toArray, List.set_cons_zero, List.set_cons_succ]
            refine wpAnyH_take (i := 7) (oi := ub0) (v := (.map (some G))) rfl (by kernel_rfl) (by kernel_rfl) (by kernel_rfl) (fun _ _ _ h => h) (Or.inl ⟨by rfl, ?_⟩) hHeld ?_
            · intro w9 hSw
              try dsimp only at hSw
              go_simp
            try simp only [Act.put, List.setIfInBounds_toArray, List.set_cons_zero, List.set_cons_succ]
            refine wpAnyH_done (by kernel_rfl) ?_ _
            refine NoPanic.normal ?_
            go_wp2
            go_ret
            exact ⟨_, G, rfl, hb, tab_of 1 6 1 17 ftcp ficmp fudp (by decide) (by decide) (by decide) (fun n => tab_4_AIB n), c42⟩
      · refine step_ins rfl _ _ _ rfl G 17 fudp (#[] : Array MapEntry) 0 (by kernel_rfl) (by kernel_rfl) (by kernel_rfl) hb rfl ?_
        intro W43 hb' gr sz
        have c43 : Below w.heap.size w W43 := c37.grown gr c37.size (fun k hk => by cases hk; exact hG)
        have hL' : G < W43.heap.size := by rw [sz]; exact hL
        clear hb hL sz gr c37
        have hL := hL'
        have hb : W43.heap[G]? = some (.map #[⟨.int .i64 17, fudp, 0⟩] 1) := hb'
        clear hb' hL'
        refine hK.out _ _ trivial (fun hHeld => ?_)
        clear hK K
        try simp only [Act.put, List.setIfInBounds_toArray, List.set_cons_zero, List.set_cons_succ]
        refine wpAnyH_ready (rs := [1, 5]) (by kernel_rfl) (by simp) ?_
        refine (AllReadyH.cons (o := ub4) rfl (fun K hK => ?_) (AllReadyH.cons (o := ub2) rfl (fun K hK => ?_) AllReadyH.nil))
        · refine step_ins rfl _ _ _ rfl G 6 ftcp (#[⟨.int .i64 17, fudp, 0⟩] : Array MapEntry) 1 (by kernel_rfl) (by kernel_rfl) (by kernel_rfl) hb rfl ?_
          intro W44 hb' gr sz
          have c44 : Below w.heap.size w W44 := c43.grown gr c43.size (fun k hk => by cases hk; exact hG)
          have hL' : G < W44.heap.size := by rw [sz]; exact hL
          clear hb hL sz gr c43
          have hL := hL'
          have hb : W44.heap[G]? = some (.map #[⟨.int .i64 17, fudp, 0⟩, ⟨.int .i64 6, ftcp, 1⟩] 2) := hb'
          clear hb' hL'
          refine hK.out _ _ trivial (fun hHeld => ?_)
          clear hK K
          try simp only [Act.put, List.setIfInBounds_toArray, List.set_cons_zero, List.set_cons_succ]
          refine wpAnyH_ready (rs := [5]) (by kernel_rfl) (by simp) ?_
          refine (AllReadyH.cons (o := ub2) rfl (fun K hK => ?_) AllReadyH.nil)
          · refine step_ins rfl _ _ _ rfl G 1 ficmp (#[⟨.int .i64 17, fudp, 0⟩, ⟨.int .i64 6, ftcp, 1⟩] : Array MapEntry) 2 (by kernel_rfl) (by kernel_rfl) (by kernel_rfl) hb rfl ?_
            intro W45 hb' gr sz
            have c45 : Below w.heap.size w W45 := c44.grown gr c44.size (fun k hk => by cases hk; exact hG)
            have hL' : G < W45.heap.size := by rw [sz]; exact hL
            clear hb hL sz gr c44
            have hL := hL'
            have hb : W45.heap[G]? = some (.map #[⟨.int .i64 17, fudp, 0⟩, ⟨.int .i64 6, ftcp, 1⟩, ⟨.int .i64 1, ficmp, 2⟩] 3) := hb'
            clear hb' hL'
            refine hK.out _ _ trivial (fun hHeld => ?_)
            clear hK K
            try simp only [Act.put, List.setIfInBounds_toArray, List.set_cons_zero, List.set_cons_succ]
            refine wpAnyH_take (i := 6) (oi := ub1) (v := (.map (some G))) rfl (by kernel_rfl) (by kernel_rfl) (by kernel_rfl) (fun _ _ _ h => h) (Or.inl ⟨by rfl, ?_⟩) hHeld ?_
            · intro w9 hSw
              try dsimp only at hSw
              go_simp
            try simp only [Act.put, List.setIfInBounds_toArray, List.set_cons_zero, List.set_cons_succ]
            refine wpAnyH_take (i := 7) (oi := ub0) (v := (.map (some G))) rfl (by kernel_rfl) (by kernel_rfl) (by kernel_rfl) (fun _ _ _ h => h) (Or.inl ⟨by rfl, ?_⟩) hHeld ?_
            · intro w9 hSw
              try dsimp only at hSw
              go_simp
            try simp only [Act.put, List.setIfInBounds_toArray, List.set_cons_zero, List.set_cons_succ]
            refine wpAnyH_done (by kernel_rfl) ?_ _
            refine NoPanic.normal ?_
            go_wp2
            go_ret
            exact ⟨_, G, rfl, hb, tab_of 1 17 6 1 fudp ftcp ficmp (by decide) (by decide) (by decide) (fun n => tab_4_BAI n), c45⟩
        · refine step_ins rfl _ _ _ rfl G 1 ficmp (#[⟨.int .i64 17, fudp, 0⟩] : Array MapEntry) 1 (by kernel_rfl) (by kernel_rfl) (by kernel_rfl) hb rfl ?_
          intro W46 hb' gr sz
          have c46 : Below w.heap.size w W46 := c43.grown gr c43.size (fun k hk => by cases hk; exact hG)
          have hL' : G < W46.heap.size := by rw [sz]; exact hL
          clear hb hL sz gr c43
          have hL := hL'
          have hb : W46.heap[G]? = some (.map #[⟨.int .i64 17, fudp, 0⟩, ⟨.int .i64 1, ficmp, 1⟩] 2) := hb'
          clear hb' hL'
          refine hK.out _ _ trivial (fun hHeld => ?_)
          clear hK K
          try simp only [Act.put, List.setIfInBounds_toArray, List.set_cons_zero, List.set_cons_succ]
          refine wpAnyH_ready (rs := [1]) (by kernel_rfl) (by simp) ?_
          refine (AllReadyH.cons (o := ub4) rfl (fun K hK => ?_) AllReadyH.nil)
          · refine step_ins rfl _ _ _ rfl G 6 ftcp (#[⟨.int .i64 17, fudp, 0⟩, ⟨.int .i64 1, ficmp, 1⟩] : Array MapEntry) 2 (by kernel_rfl) (by kernel_rfl) (by kernel_rfl) hb rfl ?_
            intro W47 hb' gr sz
            have c47 : Below w.heap.size w W47 := c46.grown gr c46.size (fun k hk => by cases hk; exact hG)
            have hL' : G < W47.heap.size := by rw [sz]; exact hL
            clear hb hL sz gr c46
            have hL := hL'
            have hb : W47.heap[G]? = some (.map #[⟨.int .i64 17, fudp, 0⟩, ⟨.int .i64 1, ficmp, 1⟩, ⟨.int .i64 6, ftcp, 2⟩] 3) := hb'
            clear hb' hL'
            refine hK.out _ _ trivial (fun hHeld => ?_)
            clear hK K
            try simp only [Act.put, List.setIfInBounds_toArray, List.set_cons_zero, List.set_cons_succ]
            refine wpAnyH_take (i := 6) (oi := ub1) (v := (.map (some G))) rfl (by kernel_rfl) (by kernel_rfl) (by kernel_rfl) (fun _ _ _ h => h) (Or.inl ⟨by rfl, ?_⟩) hHeld ?_
            · intro w9 hSw
              try dsimp only at hSw
              go_simp
            try simp only [Act.put, List.setIfInBounds_toArray, List.set_cons_zero, List.set_cons_succ]
            refine wpAnyH_take (i := 7) (oi := ub0) (v := (.map (some G))) rfl (by kernel_rfl) (by kernel_rfl) (by kernel_rfl) (fun _ _ _ h => h) (Or.inl ⟨by rfl, ?_⟩) hHeld ?_
            · intro w9 hSw
              try dsimp only at hSw
              go_simp
            try simp only [Act.put, List.setIfInBounds_toArray, List.set_cons_zero, List.set_cons_succ]
            refine wpAnyH_done (by kernel_rfl) ?_ _
            refine NoPanic.normal ?_
            go_wp2
            go_ret
            exact ⟨_, G, rfl, hb, tab_of 1 17 1 6 fudp ficmp ftcp (by decide) (by decide) (by decide) (fun n => tab_4_BIA n), c47⟩
      · refine step_ins rfl _ _ _ rfl G 1 ficmp (#[] : Array MapEntry) 0 (by kernel_rfl) (by kernel_rfl) (by kernel_rfl) hb rfl ?_
        intro W48 hb' gr sz
        have c48 : Below w.heap.size w W48 := c37.grown gr c37.size (fun k hk => by cases hk; exact hG)
        have hL' : G < W48.heap.size := by rw [sz]; exact hL
        clear hb hL sz gr c37
        have hL := hL'
        have hb : W48.heap[G]? = some (.map #[⟨.int .i64 1, ficmp, 0⟩] 1) := hb'
        clear hb' hL'
        refine hK.out _ _ trivial (fun hHeld => ?_)
        clear hK K
        try simp only [Act.put, List.setIfInBounds_toArray, List.set_cons_zero, List.set_cons_succ]
        refine wpAnyH_ready (rs := [1, 2]) (by kernel_rfl) (by simp) ?_
        refine (AllReadyH.cons (o := ub4) rfl (fun K hK => ?_) (AllReadyH.cons (o := ub3) rfl (fun K hK => ?_) AllReadyH.nil))
        · refine step_ins rfl _ _ _ rfl G 6 ftcp (#[⟨.int .i64 1, ficmp, 0⟩] : Array MapEntry) 1 (by kernel_rfl) (by kernel_rfl) (by kernel_rfl) hb rfl ?_
          intro W49 hb' gr sz
          have c49 : Below w.heap.size w W49 := c48.grown gr c48.size (fun k hk => by cases hk; exact hG)
          have hL' : G < W49.heap.size := by rw [sz]; exact hL
          clear hb hL sz gr c48
          have hL := hL'
          have hb : W49.heap[G]? = some (.map #[⟨.int .i64 1, ficmp, 0⟩, ⟨.int .i64 6, ftcp, 1⟩] 2) := hb'
          clear hb' hL'
          refine hK.out _ _ trivial (fun hHeld => ?_)
          clear hK K
          try simp only [Act.put, List.setIfInBounds_toArray, List.set_cons_zero, List.set_cons_succ]
          refine wpAnyH_ready (rs := [2]) (by kernel_rfl) (by simp) ?_
          refine (AllReadyH.cons (o := ub3) rfl (fun K hK => ?_) AllReadyH.nil)
          · refine step_ins rfl _ _ _ rfl G 17 fudp (#[⟨.int .i64 1, ficmp, 0⟩, ⟨.int .i64 6, ftcp, 1⟩] : Array MapEntry) 2 (by kernel_rfl) (by kernel_rfl) (by kernel_rfl) hb rfl ?_
            intro W50 hb' gr sz
            have c50 : Below w.heap.size w W50 := c49.grown gr c49.size (fun k hk => by cases hk; exact hG)
            have hL' : G < W50.heap.size := by rw [sz]; exact hL
            clear hb hL sz gr c49
            have hL := hL'
            have hb : W50.heap[G]? = some (.map #[⟨.int .i64 1, ficmp, 0⟩, ⟨.int .i64 6, ftcp, 1⟩, ⟨.int .i64 17, fudp, 2⟩] 3) := hb'
            clear hb' hL'
            refine hK.out _ _ trivial (fun hHeld => ?_)
            clear hK K
            try simp only [Act.put, List.setIfInBounds_toArray, List.set_cons_zero, List.set_cons_succ]
            refine wpAnyH_take (i := 6) (oi := ub1) (v := (.map (some G))) rfl (by kernel_rfl) (by kernel_rfl) (by kernel_rfl) (fun _ _ _ h => h) (Or.inl ⟨by rfl, ?_⟩) hHeld ?_
            · intro w9 hSw
              try dsimp only at hSw
              go_simp
            try simp only [Act.put, List.setIfInBounds_toArray, List.set_cons_zero, List.set_cons_succ]
            refine wpAnyH_take (i := 7) (oi := ub0) (v := (.map (some G))) rfl (by kernel_rfl) (by kernel_rfl) (by kernel_rfl) (fun _ _ _ h => h) (Or.inl ⟨by rfl, ?_⟩) hHeld ?_
            · intro w9 hSw
              try dsimp only at hSw
              go_simp
            try simp only [Act.put, List.setIfInBounds_toArray, List.set_cons_zero, List.set_cons_succ]
            refine wpAnyH_done (by kernel_rfl) ?_ _
            refine NoPanic.normal ?_
            go_wp2
            go_ret
            exact ⟨_, G, rfl, hb, tab_of 1 1 6 17 ficmp ftcp fudp (by decide) (by decide) (by decide) (fun n => tab_4_IAB n), c50⟩
        · refine step_ins rfl _ _ _ rfl G 17 fudp (#[⟨.int .i64 1, ficmp, 0⟩] : Array MapEntry) 1 (by kernel_rfl) (by kernel_rfl) (by kernel_rfl) hb rfl ?_
          intro W51 hb' gr sz
          have c51 : Below w.heap.size w W51 := c48.grown gr c48.size (fun k hk => by cases hk; exact hG)
          have hL' : G < W51.heap.size := by rw [sz]; exact hL
          clear hb hL sz gr c48
          have hL := hL'
          have hb : W51.heap[G]? = some (.map #[⟨.int .i64 1, ficmp, 0⟩, ⟨.int .i64 17, fudp, 1⟩] 2) := hb'
          clear hb' hL'
          refine hK.out _ _ trivial (fun hHeld => ?_)
          clear hK K
          try simp only [Act.put, List.setIfInBounds_toArray, List.set_cons_zero, List.set_cons_succ]
          refine wpAnyH_ready (rs := [1]) (by kernel_rfl) (by simp) ?_
          refine (AllReadyH.cons (o := ub4) rfl (fun K hK => ?_) AllReadyH.nil)
          · refine step_ins rfl _ _ _ rfl G 6 ftcp (#[⟨.int .i64 1, ficmp, 0⟩, ⟨.int .i64 17, fudp, 1⟩] : Array MapEntry) 2 (by kernel_rfl) (by kernel_rfl) (by kernel_rfl) hb rfl ?_
            intro W52 hb' gr sz
            have c52 : Below w.heap.size w W52 := c51.grown gr c51.size (fun k hk => by cases hk; exact hG)
            have hL' : G < W52.heap.size := by rw [sz]; exact hL
            clear hb hL sz gr c51
            have hL := hL'
            have hb : W52.heap[G]? = some (.map #[⟨.int .i64 1, ficmp, 0⟩, ⟨.int .i64 17, fudp, 1⟩, ⟨.int .i64 6, ftcp, 2⟩] 3) := hb'
            clear hb' hL'
            refine hK.out _ _ trivial (fun hHeld => ?_)
            clear hK K
            try simp only [Act.put, List.setIfInBounds_toArray, List.set_cons_zero, List.set_cons_succ]
            refine wpAnyH_take (i := 6) (oi := ub1) (v := (.map (some G))) rfl (by kernel_rfl) (by kernel_rfl) (by kernel_rfl) (fun _ _ _ h => h) (Or.inl ⟨by rfl, ?_⟩) hHeld ?_
            · intro w9 hSw
              try dsimp only at hSw
              go_simp
            try simp only [Act.put, List.setIfInBounds_toArray, List.set_cons_zero, List.set_cons_succ]
            refine wpAnyH_take (i := 7) (oi := ub0) (v := (.map (some G))) rfl (by kernel_rfl) (by kernel_rfl) (by kernel_rfl) (fun _ _ _ h => h) (Or.inl ⟨by rfl, ?_⟩) hHeld ?_
            · intro w9 hSw
              try dsimp only at hSw
              go_simp
            try simp only [Act.put, List.setIfInBounds_toArray, List.set_cons_zero, List.set_cons_succ]
            refine wpAnyH_done (by kernel_rfl) ?_ _
            refine NoPanic.normal ?_
            go_wp2
            go_ret
            exact ⟨_, G, rfl, hb, tab_of 1 1 17 6 ficmp fudp ftcp (by decide) (by decide) (by decide) (fun n => tab_4_IBA n), c52⟩

theorem tab_n_ABI (n : Int) : (if n = 6 then ftcp else if n = 17 then fudp else if n = 58 then ficmp else Value.nilFunc) = lookS 58 n ∧ (decide (n = 6) || (decide (n = 17) || decide (n = 58))) = knownS 58 n := by
  unfold lookS knownS
  by_cases h1 : n = 6
  · subst h1; simp
  by_cases h2 : n = 17
  · subst h2; simp
  by_cases h3 : n = 58
  · subst h3; simp
  · simp [h1, h2, h3]
theorem tab_n_AIB (n : Int) : (if n = 6 then ftcp else if n = 58 then ficmp else if n = 17 then fudp else Value.nilFunc) = lookS 58 n ∧ (decide (n = 6) || (decide (n = 58) || decide (n = 17))) = knownS 58 n := by
  unfold lookS knownS
  by_cases h1 : n = 6
  · subst h1; simp
  by_cases h2 : n = 17
  · subst h2; simp
  by_cases h3 : n = 58
  · subst h3; simp
  · simp [h1, h2, h3]
theorem tab_n_BAI (n : Int) : (if n = 17 then fudp else if n = 6 then ftcp else if n = 58 then ficmp else Value.nilFunc) = lookS 58 n ∧ (decide (n = 17) || (decide (n = 6) || decide (n = 58))) = knownS 58 n := by
  unfold lookS knownS
  by_cases h1 : n = 6
  · subst h1; simp
  by_cases h2 : n = 17
  · subst h2; simp
  by_cases h3 : n = 58
  · subst h3; simp
  · simp [h1, h2, h3]
theorem tab_n_BIA (n : Int) : (if n = 17 then fudp else if n = 58 then ficmp else if n = 6 then ftcp else Value.nilFunc) = lookS 58 n ∧ (decide (n = 17) || (decide (n = 58) || decide (n = 6))) = knownS 58 n := by
  unfold lookS knownS
  by_cases h1 : n = 6
  · subst h1; simp
  by_cases h2 : n = 17
  · subst h2; simp
  by_cases h3 : n = 58
  · subst h3; simp
  · simp [h1, h2, h3]
theorem tab_n_IAB (n : Int) : (if n = 58 then ficmp else if n = 6 then ftcp else if n = 17 then fudp else Value.nilFunc) = lookS 58 n ∧ (decide (n = 58) || (decide (n = 6) || decide (n = 17))) = knownS 58 n := by
  unfold lookS knownS
  by_cases h1 : n = 6
  · subst h1; simp
  by_cases h2 : n = 17
  · subst h2; simp
  by_cases h3 : n = 58
  · subst h3; simp
  · simp [h1, h2, h3]
theorem tab_n_IBA (n : Int) : (if n = 58 then ficmp else if n = 17 then fudp else if n = 6 then ftcp else Value.nilFunc) = lookS 58 n ∧ (decide (n = 58) || (decide (n = 17) || decide (n = 6))) = knownS 58 n := by
  unfold lookS knownS
  by_cases h1 : n = 6
  · subst h1; simp
  by_cases h2 : n = 17
  · subst h2; simp
  by_cases h3 : n = 58
  · subst h3; simp
  · simp [h1, h2, h3]
set_option maxRecDepth 100000 in
set_option maxHeartbeats 4000000 in
theorem readers_n (f : Int) (w : World) (hf : ¬ f = 4) : Calls Try.prog 33 #[.int .i64 f] w fun e w' => ∃ es G, e = .returned (.map (some G)) ∧ w'.heap[G]? = some (.map es 3) ∧ Tab 58 es ∧ Below w.heap.size w w' := by
  have KI : Hid (∀ W, Calls Try.prog 57 #[.int .i64 f] W fun e w' => e = .returned (.int .i64 58) ∧ w' = W) := fun W => by
    have := icmpOf_any f W
    unfold icmpOf at this
    rw [if_neg hf] at this
    exact this
  clear hf
  go_enter Try.func33, Try.ntmps33
  go_wp2_with fail
  refine wp_region_noPanic ?_
  refine wp_region_held_drew (S := fun _ => True) (by kernel_rfl) trivial (fun hHeld => ?_)
  refine wpAnyH_take (i := 3) (oi := ub19) (v := (.int .i64 f)) rfl (by kernel_rfl) (by kernel_rfl) (by kernel_rfl) (fun _ _ _ h => h) (Or.inl ⟨by rfl, ?_⟩) hHeld ?_
  · intro w9 hSw
    try dsimp only at hSw
    go_simp
  try simp only [Act.put, List.setIfInBounds_toArray, List.set_cons_zero, List.set_cons_succ]
  have c0 : Below w.heap.size w w.drew := (Below.refl _ _).drew
  obtain ⟨W0, hW0⟩ : ∃ W, w.drew = W := ⟨_, rfl⟩
  rw [hW0] at c0 ⊢
  clear hW0
  refine wpAnyH_ready (rs := [0, 4]) (by kernel_rfl) (by simp) ?_
  refine (AllReadyH.cons (o := ub8) rfl (fun K hK => ?_) (AllReadyH.cons (o := ub5) rfl (fun K hK => ?_) AllReadyH.nil))
  · refine step_mk rfl _ rfl ?_
    have hb := World.heap_new W0 (.map #[] 0)
    have c1 := c0.alloc c0.size (.map #[] 0)
    have hG : w.heap.size ≤ W0.heap.size := c0.size
    have hL : W0.heap.size < (W0.alloc (.map #[] 0)).heap.size := by simp
    refine hK.out _ _ trivial (fun hHeld => ?_)
    clear hK K
    generalize W0.alloc (.map #[] 0) = W1 at *
    generalize W0.heap.size = G at *
    try simp only [Act.put, List.setIfInBounds_toArray, List.set_cons_zero, List.set_cons_succ]
    refine wpAnyH_ready (rs := [1, 2, 4]) (by kernel_rfl) (by simp) ?_
    refine (AllReadyH.cons (o := ub4) rfl (fun K hK => ?_) (AllReadyH.cons (o := ub3) rfl (fun K hK => ?_) (AllReadyH.cons (o := ub5) rfl (fun K hK => ?_) AllReadyH.nil)))
    · refine step_ins rfl _ _ _ rfl G 6 ftcp (#[] : Array MapEntry) 0 (by kernel_rfl) (by kernel_rfl) (by kernel_rfl) hb rfl ?_
      intro W2 hb' gr sz
      have c2 : Below w.heap.size w W2 := c1.grown gr c1.size (fun k hk => by cases hk; exact hG)
      have hL' : G < W2.heap.size := by rw [sz]; exact hL
      clear hb hL sz gr c1
      have hL := hL'
      have hb : W2.heap[G]? = some (.map #[⟨.int .i64 6, ftcp, 0⟩] 1) := hb'
      clear hb' hL'
      refine hK.out _ _ trivial (fun hHeld => ?_)
      clear hK K
      try simp only [Act.put, List.setIfInBounds_toArray, List.set_cons_zero, List.set_cons_succ]
      refine wpAnyH_ready (rs := [2, 4]) (by kernel_rfl) (by simp) ?_
      refine (AllReadyH.cons (o := ub3) rfl (fun K hK => ?_) (AllReadyH.cons (o := ub5) rfl (fun K hK => ?_) AllReadyH.nil))
      · refine step_ins rfl _ _ _ rfl G 17 fudp (#[⟨.int .i64 6, ftcp, 0⟩] : Array MapEntry) 1 (by kernel_rfl) (by kernel_rfl) (by kernel_rfl) hb rfl ?_
        intro W3 hb' gr sz
        have c3 : Below w.heap.size w W3 := c2.grown gr c2.size (fun k hk => by cases hk; exact hG)
        have hL' : G < W3.heap.size := by rw [sz]; exact hL
        clear hb hL sz gr c2
        have hL := hL'
        have hb : W3.heap[G]? = some (.map #[⟨.int .i64 6, ftcp, 0⟩, ⟨.int .i64 17, fudp, 1⟩] 2) := hb'
        clear hb' hL'
        refine hK.out _ _ trivial (fun hHeld => ?_)
        clear hK K
        try simp only [Act.put, List.setIfInBounds_toArray, List.set_cons_zero, List.set_cons_succ]
        refine wpAnyH_ready (rs := [4]) (by kernel_rfl) (by simp) ?_
        refine (AllReadyH.cons (o := ub5) rfl (fun K hK => ?_) AllReadyH.nil)
        · go_simp
          refine Calls.mono (KI.out _) ?_
          rintro e W4 ⟨rfl, hW4⟩
          rw [hW4]
          clear hW4 W4
          refine hK.out _ _ trivial (fun hHeld => ?_)
          clear hK K
          try simp only [Act.put, List.setIfInBounds_toArray, List.set_cons_zero, List.set_cons_succ]
          refine wpAnyH_ready (rs := [5]) (by kernel_rfl) (by simp) ?_
          refine (AllReadyH.cons (o := ub2) rfl (fun K hK => ?_) AllReadyH.nil)
          · refine step_ins rfl _ _ _ rfl G 58 ficmp (#[⟨.int .i64 6, ftcp, 0⟩, ⟨.int .i64 17, fudp, 1⟩] : Array MapEntry) 2 (by kernel_rfl) (by kernel_rfl) (by kernel_rfl) hb rfl ?_
            intro W5 hb' gr sz
            have c5 : Below w.heap.size w W5 := c3.grown gr c3.size (fun k hk => by cases hk; exact hG)
            have hL' : G < W5.heap.size := by rw [sz]; exact hL
            clear hb hL sz gr c3
            have hL := hL'
            have hb : W5.heap[G]? = some (.map #[⟨.int .i64 6, ftcp, 0⟩, ⟨.int .i64 17, fudp, 1⟩, ⟨.int .i64 58, ficmp, 2⟩] 3) := hb'
            clear hb' hL'
            refine hK.out _ _ trivial (fun hHeld => ?_)
            clear hK K
            try simp only [Act.put, List.setIfInBounds_toArray, List.set_cons_zero, List.set_cons_succ]
            refine wpAnyH_take (i := 6) (oi := ub1) (v := (.map (some G))) rfl (by kernel_rfl) (by kernel_rfl) (by kernel_rfl) (fun _ _ _ h => h) (Or.inl ⟨by rfl, ?_⟩) hHeld ?_
            · intro w9 hSw
              try dsimp only at hSw
              go_simp
            try simp only [Act.put, List.setIfInBounds_toArray, List.set_cons_zero, List.set_cons_succ]
            refine wpAnyH_take (i := 7) (oi := ub0) (v := (.map (some G))) rfl (by kernel_rfl) (by kernel_rfl) (by kernel_rfl) (fun _ _ _ h => h) (Or.inl ⟨by rfl, ?_⟩) hHeld ?_
            · intro w9 hSw
              try dsimp only at hSw
              go_simp
            try simp only [Act.put, List.setIfInBounds_toArray, List.set_cons_zero, List.set_cons_succ]
            refine wpAnyH_done (by kernel_rfl) ?_ _
            refine NoPanic.normal ?_
            go_wp2
            go_ret
            exact ⟨_, G, rfl, hb, tab_of 58 6 17 58 ftcp fudp ficmp (by decide) (by decide) (by decide) (fun n => tab_n_ABI n), c5⟩
      · go_simp
        refine Calls.mono (KI.out _) ?_
        rintro e W6 ⟨rfl, hW6⟩
        rw [hW6]
        clear hW6 W6
        refine hK.out _ _ trivial (fun hHeld => ?_)
        clear hK K
        try simp only [Act.put, List.setIfInBounds_toArray, List.set_cons_zero, List.set_cons_succ]
        refine wpAnyH_ready (rs := [2, 5]) (by kernel_rfl) (by simp) ?_
        refine (AllReadyH.cons (o := ub3) rfl (fun K hK => ?_) (AllReadyH.cons (o := ub2) rfl (fun K hK => ?_) AllReadyH.nil))
        · refine step_ins rfl _ _ _ rfl G 17 fudp (#[⟨.int .i64 6, ftcp, 0⟩] : Array MapEntry) 1 (by kernel_rfl) (by kernel_rfl) (by kernel_rfl) hb rfl ?_
          intro W7 hb' gr sz
          have c7 : Below w.heap.size w W7 := c2.grown gr c2.size (fun k hk => by cases hk; exact hG)
          have hL' : G < W7.heap.size := by rw [sz]; exact hL
          clear hb hL sz gr c2
          have hL := hL'
          have hb : W7.heap[G]? = some (.map #[⟨.int .i64 6, ftcp, 0⟩, ⟨.int .i64 17, fudp, 1⟩] 2) := hb'
          clear hb' hL'
          refine hK.out _ _ trivial (fun hHeld => ?_)
          clear hK K
          try simp only [Act.put, List.setIfInBounds_toArray, List.set_cons_zero, List.set_cons_succ]
          refine wpAnyH_ready (rs := [5]) (by kernel_rfl) (by simp) ?_
          refine (AllReadyH.cons (o := ub2) rfl (fun K hK => ?_) AllReadyH.nil)
          · refine step_ins rfl _ _ _ rfl G 58 ficmp (#[⟨.int .i64 6, ftcp, 0⟩, ⟨.int .i64 17, fudp, 1⟩] : Array MapEntry) 2 (by kernel_rfl) (by kernel_rfl) (by kernel_rfl) hb rfl ?_
            intro W8 hb' gr sz
            have c8 : Below w.heap.size w W8 := c7.grown gr c7.size (fun k hk => by cases hk; exact hG)
            have hL' : G < W8.heap.size := by rw [sz]; exact hL
            clear hb hL sz gr c7
            have hL := hL'
            have hb : W8.heap[G]? = some (.map #[⟨.int .i64 6, ftcp, 0⟩, ⟨.int .i64 17, fudp, 1⟩, ⟨.int .i64 58, ficmp, 2⟩] 3) := hb'
            clear hb' hL'
            refine hK.out _ _ trivial (fun hHeld => ?_)
            clear hK K
            try simp only [Act.put, List.setIfInBounds_toArray, List.set_cons_zero, List.set_cons_succ]
            refine wpAnyH_take (i := 6) (oi := ub1) (v := (.map (some G))) rfl (by kernel_rfl) (by kernel_rfl) (by kernel_rfl) (fun _ _ _ h => h) (Or.inl ⟨by rfl, ?_⟩) hHeld ?_
            · intro w9 hSw
              try dsimp only at hSw
              go_simp
            try simp only [Act.put, List.setIfInBounds_toArray, List.set_cons_zero, List.set_cons_succ]
            refine wpAnyH_take (i := 7) (oi := ub0) (v := (.map (some G))) rfl (by kernel_rfl) (by kernel_rfl) (by kernel_rfl) (fun _ _ _ h => h) (Or.inl ⟨by rfl, ?_⟩) hHeld ?_
            · intro w9 hSw
              try dsimp only at hSw
              go_simp
            try simp only [Act.put, List.setIfInBounds_toArray, List.set_cons_zero, List.set_cons_succ]
            refine wpAnyH_done (by kernel_rfl) ?_ _
            refine NoPanic.normal ?_
            go_wp2
            go_ret
            exact ⟨_, G, rfl, hb, tab_of 58 6 17 58 ftcp fudp ficmp (by decide) (by decide) (by decide) (fun n => tab_n_ABI n), c8⟩
        · refine step_ins rfl _ _ _ rfl G 58 ficmp (#[⟨.int .i64 6, ftcp, 0⟩] : Array MapEntry) 1 (by kernel_rfl) (by kernel_rfl) (by kernel_rfl) hb rfl ?_
          intro W9 hb' gr sz
          have c9 : Below w.heap.size w W9 := c2.grown gr c2.size (fun k hk => by cases hk; exact hG)
          have hL' : G < W9.heap.size := by rw [sz]; exact hL
          clear hb hL sz gr c2
          have hL := hL'
          have hb : W9.heap[G]? = some (.map #[⟨.int .i64 6, ftcp, 0⟩, ⟨.int .i64 58, ficmp, 1⟩] 2) := hb'
          clear hb' hL'
          refine hK.out _ _ trivial (fun hHeld => ?_)
          clear hK K
          try simp only [Act.put, List.setIfInBounds_toArray, List.set_cons_zero, List.set_cons_succ]
          refine wpAnyH_ready (rs := [2]) (by kernel_rfl) (by simp) ?_
          refine (AllReadyH.cons (o := ub3) rfl (fun K hK => ?_) AllReadyH.nil)
          · refine step_ins rfl _ _ _ rfl G 17 fudp (#[⟨.int .i64 6, ftcp, 0⟩, ⟨.int .i64 58, ficmp, 1⟩] : Array MapEntry) 2 (by kernel_rfl) (by kernel_rfl) (by kernel_rfl) hb rfl ?_
            intro W10 hb' gr sz
            have c10 : Below w.heap.size w W10 := c9.grown gr c9.size (fun k hk => by cases hk; exact hG)
            have hL' : G < W10.heap.size := by rw [sz]; exact hL
            clear hb hL sz gr c9
            have hL := hL'
            have hb : W10.heap[G]? = some (.map #[⟨.int .i64 6, ftcp, 0⟩, ⟨.int .i64 58, ficmp, 1⟩, ⟨.int .i64 17, fudp, 2⟩] 3) := hb'
            clear hb' hL'
            refine hK.out _ _ trivial (fun hHeld => ?_)
            clear hK K
            try simp only [Act.put, List.setIfInBounds_toArray, List.set_cons_zero, List.set_cons_succ]
            refine wpAnyH_take (i := 6) (oi := ub1) (v := (.map (some G))) rfl (by kernel_rfl) (by kernel_rfl) (by kernel_rfl) (fun _ _ _ h => h) (Or.inl ⟨by rfl, ?_⟩) hHeld ?_
            · intro w9 hSw
              try dsimp only at hSw
              go_simp
            try simp only [Act.put, List.setIfInBounds_toArray, List.set_cons_zero, List.set_cons_succ]
            refine wpAnyH_take (i := 7) (oi := ub0) (v := (.map (some G))) rfl (by kernel_rfl) (by kernel_rfl) (by kernel_rfl) (fun _ _ _ h => h) (Or.inl ⟨by rfl, ?_⟩) hHeld ?_
            · intro w9 hSw
              try dsimp only at hSw
              go_simp
            try simp only [Act.put, List.setIfInBounds_toArray, List.set_cons_zero, List.set_cons_succ]
            refine wpAnyH_done (by kernel_rfl) ?_ _
            refine NoPanic.normal ?_
            go_wp2
            go_ret
            exact ⟨_, G, rfl, hb, tab_of 58 6 58 17 ftcp ficmp fudp (by decide) (by decide) (by decide) (fun n => tab_n_AIB n), c10⟩
    · refine step_ins rfl _ _ _ rfl G 17 fudp (#[] : Array MapEntry) 0 (by kernel_rfl) (by kernel_rfl) (by kernel_rfl) hb rfl ?_
      intro W11 hb' gr sz
      have c11 : Below w.heap.size w W11 := c1.grown gr c1.size (fun k hk => by cases hk; exact hG)
      have hL' : G < W11.heap.size := by rw [sz]; exact hL
      clear hb hL sz gr c1
      have hL := hL'
      have hb : W11.heap[G]? = some (.map #[⟨.int .i64 17, fudp, 0⟩] 1) := hb'
      clear hb' hL'
      refine hK.out _ _ trivial (fun hHeld => ?_)
      clear hK K
      try simp only [Act.put, List.setIfInBounds_toArray, List.set_cons_zero, List.set_cons_succ]
      refine wpAnyH_ready (rs := [1, 4]) (by kernel_rfl) (by simp) ?_
      refine (AllReadyH.cons (o := ub4) rfl (fun K hK => ?_) (AllReadyH.cons (o := ub5) rfl (fun K hK => ?_) AllReadyH.nil))
      · refine step_ins rfl _ _ _ rfl G 6 ftcp (#[⟨.int .i64 17, fudp, 0⟩] : Array MapEntry) 1 (by kernel_rfl) (by kernel_rfl) (by kernel_rfl) hb rfl ?_
        intro W12 hb' gr sz
        have c12 : Below w.heap.size w W12 := c11.grown gr c11.size (fun k hk => by cases hk; exact hG)
        have hL' : G < W12.heap.size := by rw [sz]; exact hL
        clear hb hL sz gr c11
        have hL := hL'
        have hb : W12.heap[G]? = some (.map #[⟨.int .i64 17, fudp, 0⟩, ⟨.int .i64 6, ftcp, 1⟩] 2) := hb'
        clear hb' hL'
        refine hK.out _ _ trivial (fun hHeld => ?_)
        clear hK K
        try simp only [Act.put, List.setIfInBounds_toArray, List.set_cons_zero, List.set_cons_succ]
        refine wpAnyH_ready (rs := [4]) (by kernel_rfl) (by simp) ?_
        refine (AllReadyH.cons (o := ub5) rfl (fun K hK => ?_) AllReadyH.nil)
        · go_simp
          refine Calls.mono (KI.out _) ?_
          rintro e W13 ⟨rfl, hW13⟩
          rw [hW13]
          clear hW13 W13
          refine hK.out _ _ trivial (fun hHeld => ?_)
          clear hK K
          try simp only [Act.put, List.setIfInBounds_toArray, List.set_cons_zero, List.set_cons_succ]
          refine wpAnyH_ready (rs := [5]) (by kernel_rfl) (by simp) ?_
          refine (AllReadyH.cons (o := ub2) rfl (fun K hK => ?_) AllReadyH.nil)
          · refine step_ins rfl _ _ _ rfl G 58 ficmp (#[⟨.int .i64 17, fudp, 0⟩, ⟨.int .i64 6, ftcp, 1⟩] : Array MapEntry) 2 (by kernel_rfl) (by kernel_rfl) (by kernel_rfl) hb rfl ?_
            intro W14 hb' gr sz
            have c14 : Below w.heap.size w W14 := c12.grown gr c12.size (fun k hk => by cases hk; exact hG)
            have hL' : G < W14.heap.size := by rw [sz]; exact hL
            clear hb hL sz gr c12
            have hL := hL'
            have hb : W14.heap[G]? = some (.map #[⟨.int .i64 17, fudp, 0⟩, ⟨.int .i64 6, ftcp, 1⟩, ⟨.int .i64 58, ficmp, 2⟩] 3) := hb'
            clear hb' hL'
            refine hK.out _ _ trivial (fun hHeld => ?_)
            clear hK K
            try simp only [Act.put, List.setIfInBounds_toArray, List.set_cons_zero, List.set_cons_succ]
            refine wpAnyH_take (i := 6) (oi := ub1) (v := (.map (some G))) rfl (by kernel_rfl) (by kernel_rfl) (by kernel_rfl) (fun _ _ _ h => h) (Or.inl ⟨by rfl, ?_⟩) hHeld ?_
            · intro w9 hSw
              try dsimp only at hSw
              go_simp
            try simp only [Act.put, List.setIfInBounds_toArray, List.set_cons_zero, List.set_cons_succ]
            refine wpAnyH_take (i := 7) (oi := ub0) (v := (.map (some G))) rfl (by kernel_rfl) (by kernel_rfl) (by kernel_rfl) (fun _ _ _ h => h) (Or.inl ⟨by rfl, ?_⟩) hHeld ?_
            · intro w9 hSw
              try dsimp only at hSw
              go_simp
            try simp only [Act.put, List.setIfInBounds_toArray, List.set_cons_zero, List.set_cons_succ]
            refine wpAnyH_done (by kernel_rfl) ?_ _
            refine NoPanic.normal ?_
            go_wp2
            go_ret
            exact ⟨_, G, rfl, hb, tab_of 58 17 6 58 fudp ftcp ficmp (by decide) (by decide) (by decide) (fun n => tab_n_BAI n), c14⟩
      · go_simp
        refine Calls.mono (KI.out _) ?_
        rintro e W15 ⟨rfl, hW15⟩
        rw [hW15]
        clear hW15 W15
        refine hK.out _ _ trivial (fun hHeld => ?_)
        clear hK K
        try simp only [Act.put, List.setIfInBounds_toArray, List.set_cons_zero, List.set_cons_succ]
        refine wpAnyH_ready (rs := [1, 5]) (by kernel_rfl) (by simp) ?_
        refine (AllReadyH.cons (o := ub4) rfl (fun K hK => ?_) (AllReadyH.cons (o := ub2) rfl (fun K hK => ?_) AllReadyH.nil))
        · refine step_ins rfl _ _ _ rfl G 6 ftcp (#[⟨.int .i64 17, fudp, 0⟩] : Array MapEntry) 1 (by kernel_rfl) (by kernel_rfl) (by kernel_rfl) hb rfl ?_
          intro W16 hb' gr sz
          have c16 : Below w.heap.size w W16 := c11.grown gr c11.size (fun k hk => by cases hk; exact hG)
          have hL' : G < W16.heap.size := by rw [sz]; exact hL
          clear hb hL sz gr c11
          have hL := hL'
          have hb : W16.heap[G]? = some (.map #[⟨.int .i64 17, fudp, 0⟩, ⟨.int .i64 6, ftcp, 1⟩] 2) := hb'
          clear hb' hL'
          refine hK.out _ _ trivial (fun hHeld => ?_)
          clear hK K
          try simp only [Act.put, List.setIfInBounds_toArray, List.set_cons_zero, List.set_cons_succ]
          refine wpAnyH_ready (rs := [5]) (by kernel_rfl) (by simp) ?_
          refine (AllReadyH.cons (o := ub2) rfl (fun K hK => ?_) AllReadyH.nil)
          · refine step_ins rfl _ _ _ rfl G 58 ficmp (#[⟨.int .i64 17, fudp, 0⟩, ⟨.int .i64 6, ftcp, 1⟩] : Array MapEntry) 2 (by kernel_rfl) (by kernel_rfl) (by kernel_rfl) hb rfl ?_
            intro W17 hb' gr sz
            have c17 : Below w.heap.size w W17 := c16.grown gr c16.size (fun k hk => by cases hk; exact hG)
            have hL' : G < W17.heap.size := by rw [sz]; exact hL
            clear hb hL sz gr c16
            have hL := hL'
            have hb : W17.heap[G]? = some (.map #[⟨.int .i64 17, fudp, 0⟩, ⟨.int .i64 6, ftcp, 1⟩, ⟨.int .i64 58, ficmp, 2⟩] 3) := hb'
            clear hb' hL'
            refine hK.out _ _ trivial (fun hHeld => ?_)
            clear hK K
            try simp only [Act.put, List.setIfInBounds_toArray, List.set_cons_zero, List.set_cons_succ]
            refine wpAnyH_take (i := 6) (oi := ub1) (v := (.map (some G))) rfl (by kernel_rfl) (by kernel_rfl) (by kernel_rfl) (fun _ _ _ h => h) (Or.inl ⟨by rfl, ?_⟩) hHeld ?_
            · intro w9 hSw
              try dsimp only at hSw
              go_simp
            try simp only [Act.put, List.setIfInBounds_toArray, List.set_cons_zero, List.set_cons_succ]
            refine wpAnyH_take (i := 7) (oi := ub0) (v := (.map (some G))) rfl (by kernel_rfl) (by kernel_rfl) (by kernel_rfl) (fun _ _ _ h => h) (Or.inl ⟨by rfl, ?_⟩) hHeld ?_
            · intro w9 hSw
              try dsimp only at hSw
              go_simp
            try simp only [Act.put, List.setIfInBounds_toArray, List.set_cons_zero, List.set_cons_succ]
            refine wpAnyH_done (by kernel_rfl) ?_ _
            refine NoPanic.normal ?_
            go_wp2
            go_ret
            exact ⟨_, G, rfl, hb, tab_of 58 17 6 58 fudp ftcp ficmp (by decide) (by decide) (by decide) (fun n => tab_n_BAI n), c17⟩
        · refine step_ins rfl _ _ _ rfl G 58 ficmp (#[⟨.int .i64 17, fudp, 0⟩] : Array MapEntry) 1 (by kernel_rfl) (by kernel_rfl) (by kernel_rfl) hb rfl ?_
          intro W18 hb' gr sz
          have c18 : Below w.heap.size w W18 := c11.grown gr c11.size (fun k hk => by cases hk; exact hG)
          have hL' : G < W18.heap.size := by rw [sz]; exact hL
          clear hb hL sz gr c11
          have hL := hL'
          have hb : W18.heap[G]? = some (.map #[⟨.int .i64 17, fudp, 0⟩, ⟨.int .i64 58, ficmp, 1⟩] 2) := hb'
          clear hb' hL'
          refine hK.out _ _ trivial (fun hHeld => ?_)
          clear hK K
          try simp only [Act.put, List.setIfInBounds_toArray, List.set_cons_zero, List.set_cons_succ]
          refine wpAnyH_ready (rs := [1]) (by kernel_rfl) (by simp) ?_
          refine (AllReadyH.cons (o := ub4) rfl (fun K hK => ?_) AllReadyH.nil)
          · refine step_ins rfl _ _ _ rfl G 6 ftcp (#[⟨.int .i64 17, fudp, 0⟩, ⟨.int .i64 58, ficmp, 1⟩] : Array MapEntry) 2 (by kernel_rfl) (by kernel_rfl) (by kernel_rfl) hb rfl ?_
            intro W19 hb' gr sz
            have c19 : Below w.heap.size w W19 := c18.grown gr c18.size (fun k hk => by cases hk; exact hG)
            have hL' : G < W19.heap.size := by rw [sz]; exact hL
            clear hb hL sz gr c18
            have hL := hL'
            have hb : W19.heap[G]? = some (.map #[⟨.int .i64 17, fudp, 0⟩, ⟨.int .i64 58, ficmp, 1⟩, ⟨.int .i64 6, ftcp, 2⟩] 3) := hb'
            clear hb' hL'
            refine hK.out _ _ trivial (fun hHeld => ?_)
            clear hK K
            try simp only [Act.put, List.setIfInBounds_toArray, List.set_cons_zero, List.set_cons_succ]
            refine wpAnyH_take (i := 6) (oi := ub1) (v := (.map (some G))) rfl (by kernel_rfl) (by kernel_rfl) (by kernel_rfl) (fun _ _ _ h => h) (Or.inl ⟨by rfl, ?_⟩) hHeld ?_
            · intro w9 hSw
              try dsimp only at hSw
              go_simp
            try simp only [Act.put, List.setIfInBounds_toArray, List.set_cons_zero, List.set_cons_succ]
            refine wpAnyH_take (i := 7) (oi := ub0) (v := (.map (some G))) rfl (by kernel_rfl) (by kernel_rfl) (by kernel_rfl) (fun _ _ _ h => h) (Or.inl ⟨by rfl, ?_⟩) hHeld ?_
            · intro w9 hSw
              try dsimp only at hSw
              go_simp
            try simp only [Act.put, List.setIfInBounds_toArray, List.set_cons_zero, List.set_cons_succ]
            refine wpAnyH_done (by kernel_rfl) ?_ _
            refine NoPanic.normal ?_
            go_wp2
            go_ret
            exact ⟨_, G, rfl, hb, tab_of 58 17 58 6 fudp ficmp ftcp (by decide) (by decide) (by decide) (fun n => tab_n_BIA n), c19⟩
    · go_simp
      refine Calls.mono (KI.out _) ?_
      rintro e W20 ⟨rfl, hW20⟩
      rw [hW20]
      clear hW20 W20
      refine hK.out _ _ trivial (fun hHeld => ?_)
      clear hK K
      try simp only [Act.put, List.setIfInBounds_toArray, List.set_cons_zero, List.set_cons_succ]
      refine wpAnyH_ready (rs := [1, 2, 5]) (by kernel_rfl) (by simp) ?_
      refine (AllReadyH.cons (o := ub4) rfl (fun K hK => ?_) (AllReadyH.cons (o := ub3) rfl (fun K hK => ?_) (AllReadyH.cons (o := ub2) rfl (fun K hK => ?_) AllReadyH.nil)))
      · refine step_ins rfl _ _ _ rfl G 6 ftcp (#[] : Array MapEntry) 0 (by kernel_rfl) (by kernel_rfl) (by kernel_rfl) hb rfl ?_
        intro W21 hb' gr sz
        have c21 : Below w.heap.size w W21 := c1.grown gr c1.size (fun k hk => by cases hk; exact hG)
        have hL' : G < W21.heap.size := by rw [sz]; exact hL
        clear hb hL sz gr c1
        have hL := hL'
        have hb : W21.heap[G]? = some (.map #[⟨.int .i64 6, ftcp, 0⟩] 1) := hb'
        clear hb' hL'
        refine hK.out _ _ trivial (fun hHeld => ?_)
        clear hK K
        try simp only [Act.put, List.setIfInBounds_toArray, List.set_cons_zero, List.set_cons_succ]
        refine wpAnyH_ready (rs := [2, 5]) (by kernel_rfl) (by simp) ?_
        refine (AllReadyH.cons (o := ub3) rfl (fun K hK => ?_) (AllReadyH.cons (o := ub2) rfl (fun K hK => ?_) AllReadyH.nil))
        · refine step_ins rfl _ _ _ rfl G 17 fudp (#[⟨.int .i64 6, ftcp, 0⟩] : Array MapEntry) 1 (by kernel_rfl) (by kernel_rfl) (by kernel_rfl) hb rfl ?_
          intro W22 hb' gr sz
          have c22 : Below w.heap.size w W22 := c21.grown gr c21.size (fun k hk => by cases hk; exact hG)
          have hL' : G < W22.heap.size := by rw [sz]; exact hL
          clear hb hL sz gr c21
          have hL := hL'
          have hb : W22.heap[G]? = some (.map #[⟨.int .i64 6, ftcp, 0⟩, ⟨.int .i64 17, fudp, 1⟩] 2) := hb'
          clear hb' hL'
          refine hK.out _ _ trivial (fun hHeld => ?_)
          clear hK K
          try simp only [Act.put, List.setIfInBounds_toArray, List.set_cons_zero, List.set_cons_succ]
          refine wpAnyH_ready (rs := [5]) (by kernel_rfl) (by simp) ?_
          refine (AllReadyH.cons (o := ub2) rfl (fun K hK => ?_) AllReadyH.nil)
          · refine step_ins rfl _ _ _ rfl G 58 ficmp (#[⟨.int .i64 6, ftcp, 0⟩, ⟨.int .i64 17, fudp, 1⟩] : Array MapEntry) 2 (by kernel_rfl) (by kernel_rfl) (by kernel_rfl) hb rfl ?_
            intro W23 hb' gr sz
            have c23 : Below w.heap.size w W23 := c22.grown gr c22.size (fun k hk => by cases hk; exact hG)
            have hL' : G < W23.heap.size := by rw [sz]; exact hL
            clear hb hL sz gr c22
            have hL := hL'
            have hb : W23.heap[G]? = some (.map #[⟨.int .i64 6, ftcp, 0⟩, ⟨.int .i64 17, fudp, 1⟩, ⟨.int .i64 58, ficmp, 2⟩] 3) := hb'
            clear hb' hL'
            refine hK.out _ _ trivial (fun hHeld => ?_)
            clear hK K
            try simp only [Act.put, List.setIfInBounds_toArray, List.set_cons_zero, List.set_cons_succ]
            refine wpAnyH_take (i := 6) (oi := ub1) (v := (.map (some G))) rfl (by kernel_rfl) (by kernel_rfl) (by kernel_rfl) (fun _ _ _ h => h) (Or.inl ⟨by rfl, ?_⟩) hHeld ?_
            · intro w9 hSw
              try dsimp only at hSw
              go_simp
            try simp only [Act.put, List.setIfInBounds_toArray, List.set_cons_zero, List.set_cons_succ]
            refine wpAnyH_take (i := 7) (oi := ub0) (v := (.map (some G))) rfl (by kernel_rfl) (by kernel_rfl) (by kernel_rfl) (fun _ _ _ h => h) (Or.inl ⟨by rfl, ?_⟩) hHeld ?_
            · intro w9 hSw
              try dsimp only at hSw
              go_simp
            try simp only [Act.put, List.setIfInBounds_toArray, List.set_cons_zero, List.set_cons_succ]
            refine wpAnyH_done (by kernel_rfl) ?_ _
            refine NoPanic.normal ?_
            go_wp2
            go_ret
            exact ⟨_, G, rfl, hb, tab_of 58 6 17 58 ftcp fudp ficmp (by decide) (by decide) (by decide) (fun n => tab_n_ABI n), c23⟩
        · refine step_ins rfl _ _ _ rfl G 58 ficmp (#[⟨.int .i64 6, ftcp, 0⟩] : Array MapEntry) 1 (by kernel_rfl) (by kernel_rfl) (by kernel_rfl) hb rfl ?_
          intro W24 hb' gr sz
          have c24 : Below w.heap.size w W24 := c21.grown gr c21.size (fun k hk => by cases hk; exact hG)
          have hL' : G < W24.heap.size := by rw [sz]; exact hL
          clear hb hL sz gr c21
          have hL := hL'
          have hb : W24.heap[G]? = some (.map #[⟨.int .i64 6, ftcp, 0⟩, ⟨.int .i64 58, ficmp, 1⟩] 2) := hb'
          clear hb' hL'
          refine hK.out _ _ trivial (fun hHeld => ?_)
          clear hK K
          try simp only [Act.put, List.setIfInBounds_toArray, List.set_cons_zero, List.set_cons_succ]
          refine wpAnyH_ready (rs := [2]) (by kernel_rfl) (by simp) ?_
          refine (AllReadyH.cons (o := ub3) rfl (fun K hK => ?_) AllReadyH.nil)
          · refine step_ins rfl _ _ _ rfl G 17 fudp (#[⟨.int .i64 6, ftcp, 0⟩, ⟨.int .i64 58, ficmp, 1⟩] : Array MapEntry) 2 (by kernel_rfl) (by kernel_rfl) (by kernel_rfl) hb rfl ?_
            intro W25 hb' gr sz
            have c25 : Below w.heap.size w W25 := c24.grown gr c24.size (fun k hk => by cases hk; exact hG)
            have hL' : G < W25.heap.size := by rw [sz]; exact hL
            clear hb hL sz gr c24
            have hL := hL'
            have hb : W25.heap[G]? = some (.map #[⟨.int .i64 6, ftcp, 0⟩, ⟨.int .i64 58, ficmp, 1⟩, ⟨.int .i64 17, fudp, 2⟩] 3) := hb'
            clear hb' hL'
            refine hK.out _ _ trivial (fun hHeld => ?_)
            clear hK K
            try simp only [Act.put, List.setIfInBounds_toArray, List.set_cons_zero, List.set_cons_succ]
            refine wpAnyH_take (i := 6) (oi := ub1) (v := (.map (some G))) rfl (by kernel_rfl) (by kernel_rfl) (by kernel_rfl) (fun _ _ _ h => h) (Or.inl ⟨by rfl, ?_⟩) hHeld ?_
            · intro w9 hSw
              try dsimp only at hSw
              go_simp
            try simp only [Act.put, List.setIfInBounds_toArray, List.set_cons_zero, List.set_cons_succ]
            refine wpAnyH_take (i := 7) (oi := ub0) (v := (.map (some G))) rfl (by kernel_rfl) (by kernel_rfl) (by kernel_rfl) (fun _ _ _ h => h) (Or.inl ⟨by rfl, ?_⟩) hHeld ?_
            · intro w9 hSw
              try dsimp only at hSw
              go_simp
            try simp only [Act.put, List.setIfInBounds_toArray, List.set_cons_zero, List.set_cons_succ]
            refine wpAnyH_done (by kernel_rfl) ?_ _
            refine NoPanic.normal ?_
            go_wp2
            go_ret
            exact ⟨_, G, rfl, hb, tab_of 58 6 58 17 ftcp ficmp fudp (by decide) (by decide) (by decide) (fun n => tab_n_AIB n), c25⟩
      · refine step_ins rfl _ _ _ rfl G 17 fudp (#[] : Array MapEntry) 0 (by kernel_rfl) (by kernel_rfl) (by kernel_rfl) hb rfl ?_
        intro W26 hb' gr sz
        have c26 : Below w.heap.size w W26 := c1.grown gr c1.size (fun k hk => by cases hk; exact hG)
        have hL' : G < W26.heap.size := by rw [sz]; exact hL
        clear hb hL sz gr c1
        have hL := hL'
        have hb : W26.heap[G]? = some (.map #[⟨.int .i64 17, fudp, 0⟩] 1) := hb'
        clear hb' hL'
        refine hK.out _ _ trivial (fun hHeld => ?_)
        clear hK K
        try simp only [Act.put, List.setIfInBounds_toArray, List.set_cons_zero, List.set_cons_succ]
        refine wpAnyH_ready (rs := [1, 5]) (by kernel_rfl) (by simp) ?_
        refine (AllReadyH.cons (o := ub4) rfl (fun K hK => ?_) (AllReadyH.cons (o := ub2) rfl (fun K hK => ?_) AllReadyH.nil))
        · refine step_ins rfl _ _ _ rfl G 6 ftcp (#[⟨.int .i64 17, fudp, 0⟩] : Array MapEntry) 1 (by kernel_rfl) (by kernel_rfl) (by kernel_rfl) hb rfl ?_
          intro W27 hb' gr sz
          have c27 : Below w.heap.size w W27 := c26.grown gr c26.size (fun k hk => by cases hk; exact hG)
          have hL' : G < W27.heap.size := by rw [sz]; exact hL
          clear hb hL sz gr c26
          have hL := hL'
          have hb : W27.heap[G]? = some (.map #[⟨.int .i64 17, fudp, 0⟩, ⟨.int .i64 6, ftcp, 1⟩] 2) := hb'
          clear hb' hL'
          refine hK.out _ _ trivial (fun hHeld => ?_)
          clear hK K
          try simp only [Act.put, List.setIfInBounds_toArray, List.set_cons_zero, List.set_cons_succ]
          refine wpAnyH_ready (rs := [5]) (by kernel_rfl) (by simp) ?_
          refine (AllReadyH.cons (o := ub2) rfl (fun K hK => ?_) AllReadyH.nil)
          · refine step_ins rfl _ _ _ rfl G 58 ficmp (#[⟨.int .i64 17, fudp, 0⟩, ⟨.int .i64 6, ftcp, 1⟩] : Array MapEntry) 2 (by kernel_rfl) (by kernel_rfl) (by kernel_rfl) hb rfl ?_
            intro W28 hb' gr sz
            have c28 : Below w.heap.size w W28 := c27.grown gr c27.size (fun k hk => by cases hk; exact hG)
            have hL' : G < W28.heap.size := by rw [sz]; exact hL
            clear hb hL sz gr c27
            have hL := hL'
            have hb : W28.heap[G]? = some (.map #[⟨.int .i64 17, fudp, 0⟩, ⟨.int .i64 6, ftcp, 1⟩, ⟨.int .i64 58, ficmp, 2⟩] 3) := hb'
            clear hb' hL'
            refine hK.out _ _ trivial (fun hHeld => ?_)
            clear hK K
            try simp only [Act.put, List.setIfInBounds_toArray, List.set_cons_zero, List.set_cons_succ]
            refine wpAnyH_take (i := 6) (oi := ub1) (v := (.map (some G))) rfl (by kernel_rfl) (by kernel_rfl) (by kernel_rfl) (fun _ _ _ h => h) (Or.inl ⟨by rfl, ?_⟩) hHeld ?_
            · intro w9 hSw
              try dsimp only at hSw
              go_simp
            try simp only [Act.put, List.setIfInBounds_toArray, List.set_cons_zero, List.set_cons_succ]
            refine wpAnyH_take (i := 7) (oi := ub0) (v := (.map (some G))) rfl (by kernel_rfl) (by kernel_rfl) (by kernel_rfl) (fun _ _ _ h => h) (Or.inl ⟨by rfl, ?_⟩) hHeld ?_
            · intro w9 hSw
              try dsimp only at hSw
              go_simp
            try simp only [Act.put, List.setIfInBounds_toArray, List.set_cons_zero, List.set_cons_succ]
            refine wpAnyH_done (by kernel_rfl) ?_ _
            refine NoPanic.normal ?_
            go_wp2
            go_ret
            exact ⟨_, G, rfl, hb, tab_of 58 17 6 58 fudp ftcp ficmp (by decide) (by decide) (by decide) (fun n => tab_n_BAI n), c28⟩
        · refine step_ins rfl _ _ _ rfl G 58 ficmp (#[⟨.int .i64 17, fudp, 0⟩] : Array MapEntry) 1 (by kernel_rfl) (by kernel_rfl) (by kernel_rfl) hb rfl ?_
          intro W29 hb' gr sz
          have c29 : Below w.heap.size w W29 := c26.grown gr c26.size (fun k hk => by cases hk; exact hG)
          have hL' : G < W29.heap.size := by rw [sz]; exact hL
          clear hb hL sz gr c26
          have hL := hL'
          have hb : W29.heap[G]? = some (.map #[⟨.int .i64 17, fudp, 0⟩, ⟨.int .i64 58, ficmp, 1⟩] 2) := hb'
          clear hb' hL'
          refine hK.out _ _ trivial (fun hHeld => ?_)
          clear hK K
          try simp only [Act.put, List.setIfInBounds_toArray, List.set_cons_zero, List.set_cons_succ]
          refine wpAnyH_ready (rs := [1]) (by kernel_rfl) (by simp) ?_
          refine (AllReadyH.cons (o := ub4) rfl (fun K hK => ?_) AllReadyH.nil)
          · refine step_ins rfl _ _ _ rfl G 6 ftcp (#[⟨.int .i64 17, fudp, 0⟩, ⟨.int .i64 58, ficmp, 1⟩] : Array MapEntry) 2 (by kernel_rfl) (by kernel_rfl) (by kernel_rfl) hb rfl ?_
            intro W30 hb' gr sz
            have c30 : Below w.heap.size w W30 := c29.grown gr c29.size (fun k hk => by cases hk; exact hG)
            have hL' : G < W30.heap.size := by rw [sz]; exact hL
            clear hb hL sz gr c29
            have hL := hL'
            have hb : W30.heap[G]? = some (.map #[⟨.int .i64 17, fudp, 0⟩, ⟨.int .i64 58, ficmp, 1⟩, ⟨.int .i64 6, ftcp, 2⟩] 3) := hb'
            clear hb' hL'
            refine hK.out _ _ trivial (fun hHeld => ?_)
            clear hK K
            try simp only [Act.put, List.setIfInBounds_toArray, List.set_cons_zero, List.set_cons_succ]
            refine wpAnyH_take (i := 6) (oi := ub1) (v := (.map (some G))) rfl (by kernel_rfl) (by kernel_rfl) (by kernel_rfl) (fun _ _ _ h => h) (Or.inl ⟨by rfl, ?_⟩) hHeld ?_
            · intro w9 hSw
              try dsimp only at hSw
              go_simp
            try simp only [Act.put, List.setIfInBounds_toArray, List.set_cons_zero, List.set_cons_succ]
            refine wpAnyH_take (i := 7) (oi := ub0) (v := (.map (some G))) rfl (by kernel_rfl) (by kernel_rfl) (by kernel_rfl) (fun _ _ _ h => h) (Or.inl ⟨by rfl, ?_⟩) hHeld ?_
            · intro w9 hSw
              try dsimp only at hSw
              go_simp
            try simp only [Act.put, List.setIfInBounds_toArray, List.set_cons_zero, List.set_cons_succ]
            refine wpAnyH_done (by kernel_rfl) ?_ _
            refine NoPanic.normal ?_
            go_wp2
            go_ret
            exact ⟨_, G, rfl, hb, tab_of 58 17 58 6 fudp ficmp ftcp (by decide) (by decide) (by decide) (fun n => tab_n_BIA n), c30⟩
      · refine step_ins rfl _ _ _ rfl G 58 ficmp (#[] : Array MapEntry) 0 (by kernel_rfl) (by kernel_rfl) (by kernel_rfl) hb rfl ?_
        intro W31 hb' gr sz
        have c31 : Below w.heap.size w W31 := c1.grown gr c1.size (fun k hk => by cases hk; exact hG)
        have hL' : G < W31.heap.size := by rw [sz]; exact hL
        clear hb hL sz gr c1
        have hL := hL'
        have hb : W31.heap[G]? = some (.map #[⟨.int .i64 58, ficmp, 0⟩] 1) := hb'
        clear hb' hL'
        refine hK.out _ _ trivial (fun hHeld => ?_)
        clear hK K
        try simp only [Act.put, List.setIfInBounds_toArray, List.set_cons_zero, List.set_cons_succ]
        refine wpAnyH_ready (rs := [1, 2]) (by kernel_rfl) (by simp) ?_
        refine (AllReadyH.cons (o := ub4) rfl (fun K hK => ?_) (AllReadyH.cons (o := ub3) rfl (fun K hK => ?_) AllReadyH.nil))
        · refine step_ins rfl _ _ _ rfl G 6 ftcp (#[⟨.int .i64 58, ficmp, 0⟩] : Array MapEntry) 1 (by kernel_rfl) (by kernel_rfl) (by kernel_rfl) hb rfl ?_
          intro W32 hb' gr sz
          have c32 : Below w.heap.size w W32 := c31.grown gr c31.size (fun k hk => by cases hk; exact hG)
          have hL' : G < W32.heap.size := by rw [sz]; exact hL
          clear hb hL sz gr c31
          have hL := hL'
          have hb : W32.heap[G]? = some (.map #[⟨.int .i64 58, ficmp, 0⟩, ⟨.int .i64 6, ftcp, 1⟩] 2) := hb'
          clear hb' hL'
          refine hK.out _ _ trivial (fun hHeld => ?_)
          clear hK K
          try simp only [Act.put, List.setIfInBounds_toArray, List.set_cons_zero, List.set_cons_succ]
          refine wpAnyH_ready (rs := [2]) (by kernel_rfl) (by simp) ?_
          refine (AllReadyH.cons (o := ub3) rfl (fun K hK => ?_) AllReadyH.nil)
          · refine step_ins rfl _ _ _ rfl G 17 fudp (#[⟨.int .i64 58, ficmp, 0⟩, ⟨.int .i64 6, ftcp, 1⟩] : Array MapEntry) 2 (by kernel_rfl) (by kernel_rfl) (by kernel_rfl) hb rfl ?_
            intro W33 hb' gr sz
            have c33 : Below w.heap.size w W33 := c32.grown gr c32.size (fun k hk => by cases hk; exact hG)
            have hL' : G < W33.heap.size := by rw [sz]; exact hL
            clear hb hL sz gr c32
            have hL := hL'
            have hb : W33.heap[G]? = some (.map #[⟨.int .i64 58, ficmp, 0⟩, ⟨.int .i64 6, ftcp, 1⟩, ⟨.int .i64 17, fudp, 2⟩] 3) := hb'
            clear hb' hL'
            refine hK.out _ _ trivial (fun hHeld => ?_)
            clear hK K
            try simp only [Act.put, List.setIfInBounds_toArray, List.set_cons_zero, List.set_cons_succ]
            refine wpAnyH_take (i := 6) (oi := ub1) (v := (.map (some G))) rfl (by kernel_rfl) (by kernel_rfl) (by kernel_rfl) (fun _ _ _ h => h) (Or.inl ⟨by rfl, ?_⟩) hHeld ?_
            · intro w9 hSw
              try dsimp only at hSw
              go_simp
            try simp only [Act.put, List.setIfInBounds_toArray, List.set_cons_zero, List.set_cons_succ]
            refine wpAnyH_take (i := 7) (oi := ub0) (v := (.map (some G))) rfl (by kernel_rfl) (by kernel_rfl) (by kernel_rfl) (fun _ _ _ h => h) (Or.inl ⟨by rfl, ?_⟩) hHeld ?_
            · intro w9 hSw
              try dsimp only at hSw
              go_simp
            try simp only [Act.put, List.setIfInBounds_toArray, List.set_cons_zero, List.set_cons_succ]
            refine wpAnyH_done (by kernel_rfl) ?_ _
            refine NoPanic.normal ?_
            go_wp2
            go_ret
            exact ⟨_, G, rfl, hb, tab_of 58 58 6 17 ficmp ftcp fudp (by decide) (by decide) (by decide) (fun n => tab_n_IAB n), c33⟩
        · refine step_ins rfl _ _ _ rfl G 17 fudp (#[⟨.int .i64 58, ficmp, 0⟩] : Array MapEntry) 1 (by kernel_rfl) (by kernel_rfl) (by kernel_rfl) hb rfl ?_
          intro W34 hb' gr sz
          have c34 : Below w.heap.size w W34 := c31.grown gr c31.size (fun k hk => by cases hk; exact hG)
          have hL' : G < W34.heap.size := by rw [sz]; exact hL
          clear hb hL sz gr c31
          have hL := hL'
          have hb : W34.heap[G]? = some (.map #[⟨.int .i64 58, ficmp, 0⟩, ⟨.int .i64 17, fudp, 1⟩] 2) := hb'
          clear hb' hL'
          refine hK.out _ _ trivial (fun hHeld => ?_)
          clear hK K
          try simp only [Act.put, List.setIfInBounds_toArray, List.set_cons_zero, List.set_cons_succ]
          refine wpAnyH_ready (rs := [1]) (by kernel_rfl) (by simp) ?_
          refine (AllReadyH.cons (o := ub4) rfl (fun K hK => ?_) AllReadyH.nil)
          · refine step_ins rfl _ _ _ rfl G 6 ftcp (#[⟨.int .i64 58, ficmp, 0⟩, ⟨.int .i64 17, fudp, 1⟩] : Array MapEntry) 2 (by kernel_rfl) (by kernel_rfl) (by kernel_rfl) hb rfl ?_
            intro W35 hb' gr sz
            have c35 : Below w.heap.size w W35 := c34.grown gr c34.size (fun k hk => by cases hk; exact hG)
            have hL' : G < W35.heap.size := by rw [sz]; exact hL
            clear hb hL sz gr c34
            have hL := hL'
            have hb : W35.heap[G]? = some (.map #[⟨.int .i64 58, ficmp, 0⟩, ⟨.int .i64 17, fudp, 1⟩, ⟨.int .i64 6, ftcp, 2⟩] 3) := hb'
            clear hb' hL'
            refine hK.out _ _ trivial (fun hHeld => ?_)
            clear hK K
            try simp only [Act.put, List.setIfInBounds_toArray, List.set_cons_zero, List.set_cons_succ]
            refine wpAnyH_take (i := 6) (oi := ub1) (v := (.map (some G))) rfl (by kernel_rfl) (by kernel_rfl) (by kernel_rfl) (fun _ _ _ h => h) (Or.inl ⟨by rfl, ?_⟩) hHeld ?_
            · intro w9 hSw
              try dsimp only at hSw
              go_simp
            try simp only [Act.put, List.setIfInBounds_toArray, List.set_cons_zero, List.set_cons_succ]
            refine wpAnyH_take (i := 7) (oi := ub0) (v := (.map (some G))) rfl (by kernel_rfl) (by kernel_rfl) (by kernel_rfl) (fun _ _ _ h => h) (Or.inl ⟨by rfl, ?_⟩) hHeld ?_
            · intro w9 hSw
              try dsimp only at hSw
              go_simp
            try simp only [Act.put, List.setIfInBounds_toArray, List.set_cons_zero, List.set_cons_succ]
            refine wpAnyH_done (by kernel_rfl) ?_ _
            refine NoPanic.normal ?_
            go_wp2
            go_ret
            exact ⟨_, G, rfl, hb, tab_of 58 58 17 6 ficmp fudp ftcp (by decide) (by decide) (by decide) (fun n => tab_n_IBA n), c35⟩
  · go_simp
    refine Calls.mono (KI.out _) ?_
    rintro e W36 ⟨rfl, hW36⟩
    rw [hW36]
    clear hW36 W36
    refine hK.out _ _ trivial (fun hHeld => ?_)
    clear hK K
    try simp only [Act.put, List.setIfInBounds_toArray, List.set_cons_zero, List.set_cons_succ]
    refine wpAnyH_ready (rs := [0]) (by kernel_rfl) (by simp) ?_
    refine (AllReadyH.cons (o := ub8) rfl (fun K hK => ?_) AllReadyH.nil)
    · refine step_mk rfl _ rfl ?_
      have hb := World.heap_new W0 (.map #[] 0)
      have c37 := c0.alloc c0.size (.map #[] 0)
      have hG : w.heap.size ≤ W0.heap.size := c0.size
      have hL : W0.heap.size < (W0.alloc (.map #[] 0)).heap.size := by simp
      refine hK.out _ _ trivial (fun hHeld => ?_)
      clear hK K
      generalize W0.alloc (.map #[] 0) = W37 at *
      generalize W0.heap.size = G at *
      try simp only [Act.put, List.setIfInBounds_toArray, List.set_cons_zero, List.set_cons_succ]
      refine wpAnyH_ready (rs := [1, 2, 5]) (by kernel_rfl) (by simp) ?_
      refine (AllReadyH.cons (o := ub4) rfl (fun K hK => ?_) (AllReadyH.cons (o := ub3) rfl (fun K hK => ?_) (AllReadyH.cons (o := ub2) rfl (fun K hK => ?_) AllReadyH.nil)))
      · refine step_ins rfl _ _ _ rfl G 6 ftcp (#[] : Array MapEntry) 0 (by kernel_rfl) (by kernel_rfl) (by kernel_rfl) hb rfl ?_
        intro W38 hb' gr sz
        have c38 : Below w.heap.size w W38 := c37.grown gr c37.size (fun k hk => by cases hk; exact hG)
        have hL' : G < W38.heap.size := by rw [sz]; exact hL
        clear hb hL sz gr c37
        have hL := hL'
        have hb : W38.heap[G]? = some (.map #[⟨.int .i64 6, ftcp, 0⟩] 1) := hb'
        clear hb' hL'
        refine hK.out _ _ trivial (fun hHeld => ?_)
        clear hK K
        try simp only [Act.put, List.setIfInBounds_toArray, List.set_cons_zero, List.set_cons_succ]
        refine wpAnyH_ready (rs := [2, 5]) (by kernel_rfl) (by simp) ?_
        refine (AllReadyH.cons (o := ub3) rfl (fun K hK => ?_) (AllReadyH.cons (o := ub2) rfl (fun K hK => ?_) AllReadyH.nil))
        · refine step_ins rfl _ _ _ rfl G 17 fudp (#[⟨.int .i64 6, ftcp, 0⟩] : Array MapEntry) 1 (by kernel_rfl) (by kernel_rfl) (by kernel_rfl) hb rfl ?_
          intro W39 hb' gr sz
          have c39 : Below w.heap.size w W39 := c38.grown gr c38.size (fun k hk => by cases hk; exact hG)
          have hL' : G < W39.heap.size := by rw [sz]; exact hL
          clear hb hL sz gr c38
          have hL := hL'
          have hb : W39.heap[G]? = some (.map #[⟨.int .i64 6, ftcp, 0⟩, ⟨.int .i64 17, fudp, 1⟩] 2) := hb'
          clear hb' hL'
          refine hK.out _ _ trivial (fun hHeld => ?_)
          clear hK K
          try simp only [Act.put, List.setIfInBounds_toArray, List.set_cons_zero, List.set_cons_succ]
          refine wpAnyH_ready (rs := [5]) (by kernel_rfl) (by simp) ?_
          refine (AllReadyH.cons (o := ub2) rfl (fun K hK => ?_) AllReadyH.nil)
          · refine step_ins rfl _ _ _ rfl G 58 ficmp (#[⟨.int .i64 6, ftcp, 0⟩, ⟨.int .i64 17, fudp, 1⟩] : Array MapEntry) 2 (by kernel_rfl) (by kernel_rfl) (by kernel_rfl) hb rfl ?_
            intro W40 hb' gr sz
            have c40 : Below w.heap.size w W40 := c39.grown gr c39.size (fun k hk => by cases hk; exact hG)
            have hL' : G < W40.heap.size := by rw [sz]; exact hL
            clear hb hL sz gr c39
            have hL := hL'
            have hb : W40.heap[G]? = some (.map #[⟨.int .i64 6, ftcp, 0⟩, ⟨.int .i64 17, fudp, 1⟩, ⟨.int .i64 58, ficmp, 2⟩] 3) := hb'
            clear hb' hL'
            refine hK.out _ _ trivial (fun hHeld => ?_)
            clear hK K
            try simp only [Act.put, List.setIfInBounds_toArray, List.set_cons_zero, List.set_cons_succ]
            refine wpAnyH_take (i := 6) (oi := ub1) (v := (.map (some G))) rfl (by kernel_rfl) (by kernel_rfl) (by kernel_rfl) (fun _ _ _ h => h) (Or.inl ⟨by rfl, ?_⟩) hHeld ?_
            · intro w9 hSw
              try dsimp only at hSw
              go_simp
            try simp only [Act.put, List.setIfInBounds_toArray, List.set_cons_zero, List.set_cons_succ]
            refine wpAnyH_take (i := 7) (oi := ub0) (v := (.map (some G))) rfl (by kernel_rfl) (by kernel_rfl) (by kernel_rfl) (fun _ _ _ h => h) (Or.inl ⟨by rfl, ?_⟩) hHeld ?_
            · intro w9 hSw
              try dsimp only at hSw
              go_simp
            try simp only [Act.put, List.setIfInBounds_toArray, List.set_cons_zero, List.set_cons_succ]
            refine wpAnyH_done (by kernel_rfl) ?_ _
            refine NoPanic.normal ?_
            go_wp2
            go_ret
            exact ⟨_, G, rfl, hb, tab_of 58 6 17 58 ftcp fudp ficmp (by decide) (by decide) (by decide) (fun n => tab_n_ABI n), c40⟩
        · refine step_ins rfl _ _ _ rfl G 58 ficmp (#[⟨.int .i64 6, ftcp, 0⟩] : Array MapEntry) 1 (by kernel_rfl) (by kernel_rfl) (by kernel_rfl) hb rfl ?_
          intro W41 hb' gr sz
          have c41 : Below w.heap.size w W41 := c38.grown gr c38.size (fun k hk => by cases hk; exact hG)
          have hL' : G < W41.heap.size := by rw [sz]; exact hL
          clear hb hL sz gr c38
          have hL := hL'
          have hb : W41.heap[G]? = some (.map #[⟨.int .i64 6, ftcp, 0⟩, ⟨.int .i64 58, ficmp, 1⟩] 2) := hb'
          clear hb' hL'
          refine hK.out _ _ trivial (fun hHeld => ?_)
          clear hK K
          try simp only [Act.put, List.setIfInBounds_toArray, List.set_cons_zero, List.set_cons_succ]
          refine wpAnyH_ready (rs := [2]) (by kernel_rfl) (by simp) ?_
          refine (AllReadyH.cons (o := ub3) rfl (fun K hK => ?_) AllReadyH.nil)
          · refine step_ins rfl _ _ _ rfl G 17 fudp (#[⟨.int .i64 6, ftcp, 0⟩, ⟨.int .i64 58, ficmp, 1⟩] : Array MapEntry) 2 (by kernel_rfl) (by kernel_rfl) (by kernel_rfl) hb rfl ?_
            intro W42 hb' gr sz
            have c42 : Below w.heap.size w W42 := c41.grown gr c41.size (fun k hk => by cases hk; exact hG)
            have hL' : G < W42.heap.size := by rw [sz]; exact hL
            clear hb hL sz gr c41
            have hL := hL'
            have hb : W42.heap[G]? = some (.map #[⟨.int .i64 6, ftcp, 0⟩, ⟨.int .i64 58, ficmp, 1⟩, ⟨.int .i64 17, fudp, 2⟩] 3) := hb'
            clear hb' hL'
            refine hK.out _ _ trivial (fun hHeld => ?_)
            clear hK K
            try simp only [Act.put, List.setIfInBounds_toArray, List.set_cons_zero, List.set_cons_succ]
            refine wpAnyH_take (i := 6) (oi := ub1) (v := (.map (some G))) rfl (by kernel_rfl) (by kernel_rfl) (by kernel_rfl) (fun _ _ _ h => h) (Or.inl ⟨by rfl, ?_⟩) hHeld ?_
            · intro w9 hSw
              try dsimp only at hSw
              go_simp
            try simp only [Act.put, List.setIfInBounds_toArray, List.set_cons_zero, List.set_cons_succ]
            refine wpAnyH_take (i := 7) (oi := ub0) (v := (.map (some G))) rfl (by kernel_rfl) (by kernel_rfl) (by kernel_rfl) (fun _ _ _ h => h) (Or.inl ⟨by rfl, ?_⟩) hHeld ?_
            · intro w9 hSw
              try dsimp only at hSw
              go_simp
            try simp only [Act.put, List.setIfInBounds_toArray, List.set_cons_zero, List.set_cons_succ]
            refine wpAnyH_done (by kernel_rfl) ?_ _
            refine NoPanic.normal ?_
            go_wp2
            go_ret
            exact ⟨_, G, rfl, hb, tab_of 58 6 58 17 ftcp ficmp fudp (by decide) (by decide) (by decide) (fun n => tab_n_AIB n), c42⟩
      · refine step_ins rfl _ _ _ rfl G 17 fudp (#[] : Array MapEntry) 0 (by kernel_rfl) (by kernel_rfl) (by kernel_rfl) hb rfl ?_
        intro W43 hb' gr sz
        have c43 : Below w.heap.size w W43 := c37.grown gr c37.size (fun k hk => by cases hk; exact hG)
        have hL' : G < W43.heap.size := by rw [sz]; exact hL
        clear hb hL sz gr c37
        have hL := hL'
        have hb : W43.heap[G]? = some (.map #[⟨.int .i64 17, fudp, 0⟩] 1) := hb'
        clear hb' hL'
        refine hK.out _ _ trivial (fun hHeld => ?_)
        clear hK K
        try simp only [Act.put, List.setIfInBounds_toArray, List.set_cons_zero, List.set_cons_succ]
        refine wpAnyH_ready (rs := [1, 5]) (by kernel_rfl) (by simp) ?_
        refine (AllReadyH.cons (o := ub4) rfl (fun K hK => ?_) (AllReadyH.cons (o := ub2) rfl (fun K hK => ?_) AllReadyH.nil))
        · refine step_ins rfl _ _ _ rfl G 6 ftcp (#[⟨.int .i64 17, fudp, 0⟩] : Array MapEntry) 1 (by kernel_rfl) (by kernel_rfl) (by kernel_rfl) hb rfl ?_
          intro W44 hb' gr sz
          have c44 : Below w.heap.size w W44 := c43.grown gr c43.size (fun k hk => by cases hk; exact hG)
          have hL' : G < W44.heap.size := by rw [sz]; exact hL
          clear hb hL sz gr c43
          have hL := hL'
          have hb : W44.heap[G]? = some (.map #[⟨.int .i64 17, fudp, 0⟩, ⟨.int .i64 6, ftcp, 1⟩] 2) := hb'
          clear hb' hL'
          refine hK.out _ _ trivial (fun hHeld => ?_)
          clear hK K
          try simp only [Act.put, List.setIfInBounds_toArray, List.set_cons_zero, List.set_cons_succ]
          refine wpAnyH_ready (rs := [5]) (by kernel_rfl) (by simp) ?_
          refine (AllReadyH.cons (o := ub2) rfl (fun K hK => ?_) AllReadyH.nil)
          · refine step_ins rfl _ _ _ rfl G 58 ficmp (#[⟨.int .i64 17, fudp, 0⟩, ⟨.int .i64 6, ftcp, 1⟩] : Array MapEntry) 2 (by kernel_rfl) (by kernel_rfl) (by kernel_rfl) hb rfl ?_
            intro W45 hb' gr sz
            have c45 : Below w.heap.size w W45 := c44.grown gr c44.size (fun k hk => by cases hk; exact hG)
            have hL' : G < W45.heap.size := by rw [sz]; exact hL
            clear hb hL sz gr c44
            have hL := hL'
            have hb : W45.heap[G]? = some (.map #[⟨.int .i64 17, fudp, 0⟩, ⟨.int .i64 6, ftcp, 1⟩, ⟨.int .i64 58, ficmp, 2⟩] 3) := hb'
            clear hb' hL'
            refine hK.out _ _ trivial (fun hHeld => ?_)
            clear hK K
            try simp only [Act.put, List.setIfInBounds_toArray, List.set_cons_zero, List.set_cons_succ]
            refine wpAnyH_take (i := 6) (oi := ub1) (v := (.map (some G))) rfl (by kernel_rfl) (by kernel_rfl) (by kernel_rfl) (fun _ _ _ h => h) (Or.inl ⟨by rfl, ?_⟩) hHeld ?_
            · intro w9 hSw
              try dsimp only at hSw
              go_simp
            try simp only [Act.put, List.setIfInBounds_toArray, List.set_cons_zero, List.set_cons_succ]
            refine wpAnyH_take (i := 7) (oi := ub0) (v := (.map (some G))) rfl (by kernel_rfl) (by kernel_rfl) (by kernel_rfl) (fun _ _ _ h => h) (Or.inl ⟨by rfl, ?_⟩) hHeld ?_
            · intro w9 hSw
              try dsimp only at hSw
              go_simp
            try simp only [Act.put, List.setIfInBounds_toArray, List.set_cons_zero, List.set_cons_succ]
            refine wpAnyH_done (by kernel_rfl) ?_ _
            refine NoPanic.normal ?_
            go_wp2
            go_ret
            exact ⟨_, G, rfl, hb, tab_of 58 17 6 58 fudp ftcp ficmp (by decide) (by decide) (by decide) (fun n => tab_n_BAI n), c45⟩
        · refine step_ins rfl _ _ _ rfl G 58 ficmp (#[⟨.int .i64 17, fudp, 0⟩] : Array MapEntry) 1 (by kernel_rfl) (by kernel_rfl) (by kernel_rfl) hb rfl ?_
          intro W46 hb' gr sz
          have c46 : Below w.heap.size w W46 := c43.grown gr c43.size (fun k hk => by cases hk; exact hG)
          have hL' : G < W46.heap.size := by rw [sz]; exact hL
          clear hb hL sz gr c43
          have hL := hL'
          have hb : W46.heap[G]? = some (.map #[⟨.int .i64 17, fudp, 0⟩, ⟨.int .i64 58, ficmp, 1⟩] 2) := hb'
          clear hb' hL'
          refine hK.out _ _ trivial (fun hHeld => ?_)
          clear hK K
          try simp only [Act.put, List.setIfInBounds_toArray, List.set_cons_zero, List.set_cons_succ]
          refine wpAnyH_ready (rs := [1]) (by kernel_rfl) (by simp) ?_
          refine (AllReadyH.cons (o := ub4) rfl (fun K hK => ?_) AllReadyH.nil)
          · refine step_ins rfl _ _ _ rfl G 6 ftcp (#[⟨.int .i64 17, fudp, 0⟩, ⟨.int .i64 58, ficmp, 1⟩] : Array MapEntry) 2 (by kernel_rfl) (by kernel_rfl) (by kernel_rfl) hb rfl ?_
            intro W47 hb' gr sz
            have c47 : Below w.heap.size w W47 := c46.grown gr c46.size (fun k hk => by cases hk; exact hG)
            have hL' : G < W47.heap.size := by rw [sz]; exact hL
            clear hb hL sz gr c46
            have hL := hL'
            have hb : W47.heap[G]? = some (.map #[⟨.int .i64 17, fudp, 0⟩, ⟨.int .i64 58, ficmp, 1⟩, ⟨.int .i64 6, ftcp, 2⟩] 3) := hb'
            clear hb' hL'
            refine hK.out _ _ trivial (fun hHeld => ?_)
            clear hK K
            try simp only [Act.put, List.setIfInBounds_toArray, List.set_cons_zero, List.set_cons_succ]
            refine wpAnyH_take (i := 6) (oi := ub1) (v := (.map (some G))) rfl (by kernel_rfl) (by kernel_rfl) (by kernel_rfl) (fun _ _ _ h => h) (Or.inl ⟨by rfl, ?_⟩) hHeld ?_
            · intro w9 hSw
              try dsimp only at hSw
              go_simp
            try simp only [Act.put, List.setIfInBounds_toArray, List.set_cons_zero, List.set_cons_succ]
            refine wpAnyH_take (i := 7) (oi := ub0) (v := (.map (some G))) rfl (by kernel_rfl) (by kernel_rfl) (by kernel_rfl) (fun _ _ _ h => h) (Or.inl ⟨by rfl, ?_⟩) hHeld ?_
            · intro w9 hSw
              try dsimp only at hSw
              go_simp
            try simp only [Act.put, List.setIfInBounds_toArray, List.set_cons_zero, List.set_cons_succ]
            refine wpAnyH_done (by kernel_rfl) ?_ _
            refine NoPanic.normal ?_
            go_wp2
            go_ret
            exact ⟨_, G, rfl, hb, tab_of 58 17 58 6 fudp ficmp ftcp (by decide) (by decide) (by decide) (fun n => tab_n_BIA n), c47⟩
      · refine step_ins rfl _ _ _ rfl G 58 ficmp (#[] : Array MapEntry) 0 (by kernel_rfl) (by kernel_rfl) (by kernel_rfl) hb rfl ?_
        intro W48 hb' gr sz
        have c48 : Below w.heap.size w W48 := c37.grown gr c37.size (fun k hk => by cases hk; exact hG)
        have hL' : G < W48.heap.size := by rw [sz]; exact hL
        clear hb hL sz gr c37
        have hL := hL'
        have hb : W48.heap[G]? = some (.map #[⟨.int .i64 58, ficmp, 0⟩] 1) := hb'
        clear hb' hL'
        refine hK.out _ _ trivial (fun hHeld => ?_)
        clear hK K
        try simp only [Act.put, List.setIfInBounds_toArray, List.set_cons_zero, List.set_cons_succ]
        refine wpAnyH_ready (rs := [1, 2]) (by kernel_rfl) (by simp) ?_
        refine (AllReadyH.cons (o := ub4) rfl (fun K hK => ?_) (AllReadyH.cons (o := ub3) rfl (fun K hK => ?_) AllReadyH.nil))
        · refine step_ins rfl _ _ _ rfl G 6 ftcp (#[⟨.int .i64 58, ficmp, 0⟩] : Array MapEntry) 1 (by kernel_rfl) (by kernel_rfl) (by kernel_rfl) hb rfl ?_
          intro W49 hb' gr sz
          have c49 : Below w.heap.size w W49 := c48.grown gr c48.size (fun k hk => by cases hk; exact hG)
          have hL' : G < W49.heap.size := by rw [sz]; exact hL
          clear hb hL sz gr c48
          have hL := hL'
          have hb : W49.heap[G]? = some (.map #[⟨.int .i64 58, ficmp, 0⟩, ⟨.int .i64 6, ftcp, 1⟩] 2) := hb'
          clear hb' hL'
          refine hK.out _ _ trivial (fun hHeld => ?_)
          clear hK K
          try simp only [Act.put, List.setIfInBounds_toArray, List.set_cons_zero, List.set_cons_succ]
          refine wpAnyH_ready (rs := [2]) (by kernel_rfl) (by simp) ?_
          refine (AllReadyH.cons (o := ub3) rfl (fun K hK => ?_) AllReadyH.nil)
          · refine step_ins rfl _ _ _ rfl G 17 fudp (#[⟨.int .i64 58, ficmp, 0⟩, ⟨.int .i64 6, ftcp, 1⟩] : Array MapEntry) 2 (by kernel_rfl) (by kernel_rfl) (by kernel_rfl) hb rfl ?_
            intro W50 hb' gr sz
            have c50 : Below w.heap.size w W50 := c49.grown gr c49.size (fun k hk => by cases hk; exact hG)
            have hL' : G < W50.heap.size := by rw [sz]; exact hL
            clear hb hL sz gr c49
            have hL := hL'
            have hb : W50.heap[G]? = some (.map #[⟨.int .i64 58, ficmp, 0⟩, ⟨.int .i64 6, ftcp, 1⟩, ⟨.int .i64 17, fudp, 2⟩] 3) := hb'
            clear hb' hL'
            refine hK.out _ _ trivial (fun hHeld => ?_)
            clear hK K
            try simp only [Act.put, List.setIfInBounds_toArray, List.set_cons_zero, List.set_cons_succ]
            refine wpAnyH_take (i := 6) (oi := ub1) (v := (.map (some G))) rfl (by kernel_rfl) (by kernel_rfl) (by kernel_rfl) (fun _ _ _ h => h) (Or.inl ⟨by rfl, ?_⟩) hHeld ?_
            · intro w9 hSw
              try dsimp only at hSw
              go_simp
            try simp only [Act.put, List.setIfInBounds_toArray, List.set_cons_zero, List.set_cons_succ]
            refine wpAnyH_take (i := 7) (oi := ub0) (v := (.map (some G))) rfl (by kernel_rfl) (by kernel_rfl) (by kernel_rfl) (fun _ _ _ h => h) (Or.inl ⟨by rfl, ?_⟩) hHeld ?_
            · intro w9 hSw
              try dsimp only at hSw
              go_simp
            try simp only [Act.put, List.setIfInBounds_toArray, List.set_cons_zero, List.set_cons_succ]
            refine wpAnyH_done (by kernel_rfl) ?_ _
            refine NoPanic.normal ?_
            go_wp2
            go_ret
            exact ⟨_, G, rfl, hb, tab_of 58 58 6 17 ficmp ftcp fudp (by decide) (by decide) (by decide) (fun n => tab_n_IAB n), c50⟩
        · refine step_ins rfl _ _ _ rfl G 17 fudp (#[⟨.int .i64 58, ficmp, 0⟩] : Array MapEntry) 1 (by kernel_rfl) (by kernel_rfl) (by kernel_rfl) hb rfl ?_
          intro W51 hb' gr sz
          have c51 : Below w.heap.size w W51 := c48.grown gr c48.size (fun k hk => by cases hk; exact hG)
          have hL' : G < W51.heap.size := by rw [sz]; exact hL
          clear hb hL sz gr c48
          have hL := hL'
          have hb : W51.heap[G]? = some (.map #[⟨.int .i64 58, ficmp, 0⟩, ⟨.int .i64 17, fudp, 1⟩] 2) := hb'
          clear hb' hL'
          refine hK.out _ _ trivial (fun hHeld => ?_)
          clear hK K
          try simp only [Act.put, List.setIfInBounds_toArray, List.set_cons_zero, List.set_cons_succ]
          refine wpAnyH_ready (rs := [1]) (by kernel_rfl) (by simp) ?_
          refine (AllReadyH.cons (o := ub4) rfl (fun K hK => ?_) AllReadyH.nil)
          · refine step_ins rfl _ _ _ rfl G 6 ftcp (#[⟨.int .i64 58, ficmp, 0⟩, ⟨.int .i64 17, fudp, 1⟩] : Array MapEntry) 2 (by kernel_rfl) (by kernel_rfl) (by kernel_rfl) hb rfl ?_
            intro W52 hb' gr sz
            have c52 : Below w.heap.size w W52 := c51.grown gr c51.size (fun k hk => by cases hk; exact hG)
            have hL' : G < W52.heap.size := by rw [sz]; exact hL
            clear hb hL sz gr c51
            have hL := hL'
            have hb : W52.heap[G]? = some (.map #[⟨.int .i64 58, ficmp, 0⟩, ⟨.int .i64 17, fudp, 1⟩, ⟨.int .i64 6, ftcp, 2⟩] 3) := hb'
            clear hb' hL'
            refine hK.out _ _ trivial (fun hHeld => ?_)
            clear hK K
            try simp only [Act.put, List.setIfInBounds_toArray, List.set_cons_zero, List.set_cons_succ]
            refine wpAnyH_take (i := 6) (oi := ub1) (v := (.map (some G))) rfl (by kernel_rfl) (by kernel_rfl) (by kernel_rfl) (fun _ _ _ h => h) (Or.inl ⟨by rfl, ?_⟩) hHeld ?_
            · intro w9 hSw
              try dsimp only at hSw
              go_simp
            try simp only [Act.put, List.setIfInBounds_toArray, List.set_cons_zero, List.set_cons_succ]
            refine wpAnyH_take (i := 7) (oi := ub0) (v := (.map (some G))) rfl (by kernel_rfl) (by kernel_rfl) (by kernel_rfl) (fun _ _ _ h => h) (Or.inl ⟨by rfl, ?_⟩) hHeld ?_
            · intro w9 hSw
              try dsimp only at hSw
              go_simp
            try simp only [Act.put, List.setIfInBounds_toArray, List.set_cons_zero, List.set_cons_succ]
            refine wpAnyH_done (by kernel_rfl) ?_ _
            refine NoPanic.normal ?_
            go_wp2
            go_ret
            exact ⟨_, G, rfl, hb, tab_of 58 58 17 6 ficmp fudp ftcp (by decide) (by decide) (by decide) (fun n => tab_n_IBA n), c52⟩

end Go.Proofs.Ytgdpcomcndidcaa

namespace Go.Proofs.Ytgdpcomcndidcaa
open Go.RowKit Go.Maps
set_option linter.unusedVariables false
set_option linter.unusedSimpArgs false

/-- What Parse answers. -/
def segE (f pr : Int) (s d : Ad) (l : List Int) : Int :=
  if endsB f s d = false then 1 else if pr = 6 then tcpE f pr s d l else if pr = 17 then udpE f pr s d l else if pr = icmpOf f then icmpE f pr s d l else 9
def segX (f pr : Int) (s d : Ad) (l : List Int) : Sg :=
  if segE f pr s d l = 0 then (if pr = 6 then tcpX f pr s d l else if pr = 17 then udpX f pr s d l else icmpX f pr s d l) else zSg
theorem step_look {ops : Array Oper} {o : Oper} {ac : Act} {K : Act → World → Prop} {Q : Exit → Act → World → Prop} {Z : Prop} {w : World} (hgd : o.guard = none) (m k : Operand) (ho : o.op = Op.lookup 62 m k true) (v1 v2 r : Value)
    (hm : ac.eval m = v1) (hk : ac.eval k = v2) (hrun : (Instr.lookup 62 v1 v2 true).run Try.prog w = .ok r w) (h : K (ac.put o.dst r) w) :
    if Region.wanted o (yielded ops ac.tmps) = true then Oper.wp Try.prog o ac w K Q else Z := by
  have hw : Region.wanted o (yielded ops ac.tmps) = true := by simp [Region.wanted, hgd]
  rw [if_pos hw]
  simp [Oper.wp, Oper.upon, execOp, ho, hm, hk, hrun, Result.andThen]
  exact h

theorem readers_any (f : Int) (w : World) : Calls Try.prog 33 #[.int .i64 f] w fun e w' => ∃ es G, e = .returned (.map (some G)) ∧ w'.heap[G]? = some (.map es 3) ∧ Tab (icmpOf f) es ∧ Below w.heap.size w w' := by
  unfold icmpOf
  by_cases hf : f = 4
  · rw [if_pos hf]
    exact readers_4 f w hf
  · rw [if_neg hf]
    exact readers_n f w hf

set_option maxRecDepth 100000 in
set_option maxHeartbeats 4000000 in
theorem parse_y (f sf sh sl df dh dl pr ho : Int) (fg : Bool) (id of : Int) (mo : Bool) (xa : Option Addr) (xn xc : Nat) (da : Option Addr) (dc : Nat) (l : List Int) (w : World) (h : Row w da l) (hnil : da = none → dc = 0) (hc : l.length ≤ dc) (hcm : dc ≤ 9223372036854775807) (hll : l.length ≤ 140737488351232) (hs : Ad.ok ⟨sf, sh, sl⟩) (hd : Ad.ok ⟨df, dh, dl⟩) (hE : endsB f ⟨sf, sh, sl⟩ ⟨df, dh, dl⟩ = true) (fn : FuncId) (hfv : lookS (icmpOf f) pr = .func (.func fn) #[] #[]) (hkn : knownS (icmpOf f) pr = true) (hcf : ∀ args w, (callFunc fn args).run Try.prog w = .ok (.enter fn args) w) (E : Int) (X : Sg) (KF : ∀ W, Row W da l → Calls Try.prog fn #[.agg #[.int .i64 f, .int .i64 sf, .int .u64 sh, .int .u64 sl, .int .i64 df, .int .u64 dh, .int .u64 dl, .int .i64 pr, .int .i64 ho, .bool fg, .int .u32 id, .int .i64 of, .bool mo, .slice xa xn xc, .slice da l.length dc]] W (GotS W E X)) :
    Calls Try.prog 16 #[.agg #[.int .i64 f, .int .i64 sf, .int .u64 sh, .int .u64 sl, .int .i64 df, .int .u64 dh, .int .u64 dl, .int .i64 pr, .int .i64 ho, .bool fg, .int .u32 id, .int .i64 of, .bool mo, .slice xa xn xc, .slice da l.length dc]] w (GotS w E X) := by
  have HKF : Hid _ := KF
  clear KF
  obtain ⟨W1, hW1⟩ : ∃ W1, w.alloc (.cells #[.int .i64 f, .int .i64 sf, .int .u64 sh, .int .u64 sl, .int .i64 df, .int .u64 dh, .int .u64 dl, .int .i64 pr, .int .i64 ho, .bool fg, .int .u32 id, .int .i64 of, .bool mo, .slice xa xn xc, .slice da l.length dc] 36) = W1 := ⟨_, rfl⟩
  obtain ⟨W2, hW2⟩ : ∃ W2, W1.alloc (.cells #[.int .i64 0, .int .i64 0, .int .i64 0, .int .u64 0, .int .u64 0, .int .i64 0, .int .u64 0, .int .u64 0, .int .i64 0, .int .i64 0, .int .i64 0, .int .u32 0, .int .u32 0, .int .i64 0, .int .i64 0, .int .i64 0, .bool false, .int .i64 0, .int .i64 0, .int .i64 0, .int .u64 0, .int .u64 0, .int .i64 0, .int .u64 0, .int .u64 0, .int .i64 0, .int .i64 0, .slice none 0 0] 38) = W2 := ⟨_, rfl⟩
  have b1 : Below w.heap.size w W1 := by rw [← hW1]; exact (Below.refl _ _).alloc (Nat.le_refl _) _
  have b2 : Below w.heap.size w W2 := by rw [← hW2]; exact b1.alloc b1.size _
  have B1' : Blk W1 w.heap.size 36 #[.int .i64 f, .int .i64 sf, .int .u64 sh, .int .u64 sl, .int .i64 df, .int .u64 dh, .int .u64 dl, .int .i64 pr, .int .i64 ho, .bool fg, .int .u32 id, .int .i64 of, .bool mo, .slice xa xn xc, .slice da l.length dc] := by rw [← hW1]; exact blk_new _ _ _
  have B1 : Blk W2 w.heap.size 36 #[.int .i64 f, .int .i64 sf, .int .u64 sh, .int .u64 sl, .int .i64 df, .int .u64 dh, .int .u64 dl, .int .i64 pr, .int .i64 ho, .bool fg, .int .u32 id, .int .i64 of, .bool mo, .slice xa xn xc, .slice da l.length dc] := by rw [← hW2]; exact B1'.alloc _
  have B2 : Blk W2 W1.heap.size 38 #[.int .i64 0, .int .i64 0, .int .i64 0, .int .u64 0, .int .u64 0, .int .i64 0, .int .u64 0, .int .u64 0, .int .i64 0, .int .i64 0, .int .i64 0, .int .u32 0, .int .u32 0, .int .i64 0, .int .i64 0, .int .i64 0, .bool false, .int .i64 0, .int .i64 0, .int .i64 0, .int .u64 0, .int .u64 0, .int .i64 0, .int .u64 0, .int .u64 0, .int .i64 0, .int .i64 0, .slice none 0 0] := by rw [← hW2]; exact blk_new _ _ _
  have g1 : w.heap.size < W1.heap.size := B1'.lt
  clear B1'
  have d0 := B1.cell 0 (.int .i64 f) rfl
  have d1 := B1.cell 1 (.int .i64 sf) rfl
  have d2 := B1.cell 2 (.int .u64 sh) rfl
  have d3 := B1.cell 3 (.int .u64 sl) rfl
  have d4 := B1.cell 4 (.int .i64 df) rfl
  have d5 := B1.cell 5 (.int .u64 dh) rfl
  have d6 := B1.cell 6 (.int .u64 dl) rfl
  have d7 := B1.cell 7 (.int .i64 pr) rfl
  have K0 := ofFamily_any f sf sh sl df dh dl W2
  rw [hE] at K0
  have K0 : Hid _ := K0
  have KR : Hid (∀ W, Calls Try.prog 33 #[.int .i64 f] W fun e w' => ∃ es G, e = .returned (.map (some G)) ∧ w'.heap[G]? = some (.map es 3) ∧ Tab (icmpOf f) es ∧ Below W.heap.size W w') := fun W => readers_any f W
  obtain ⟨I, hI⟩ : ∃ I, icmpOf f = I := ⟨_, rfl⟩
  rw [hI] at KR hfv hkn
  clear hI
  go_enter Try.func16, Try.ntmps16
  go_wp2_with fail
  refine Calls.mono K0.out ?_
  rintro e W3 ⟨rfl, bb⟩
  have b3 : Below w.heap.size w W3 := b2.trans (bb.mono b2.size)
  have B3 := B1.kept bb
  have B3' := B2.kept bb
  clear K0 bb B1 B2 b2 hW1 hW2 d0 d1 d2 d3 d4 d5 d6 d7
  go_wp2_with fail
  refine wp_region_noPanic ?_
  refine wp_region_held_drew (S := fun w' => w'.cell? ⟨w.heap.size, 0, none⟩ = some (.int .i64 f) ∧ w'.cell? ⟨w.heap.size, 7, none⟩ = some (.int .i64 pr)) (by kernel_rfl) (by exact ⟨B3.drew.cell 0 _ rfl, B3.drew.cell 7 _ rfl⟩) (fun hHeld => ?_)
  refine wpAnyH_take (i := 0) (oi := { dst := some 16, op := Op.fieldAddr 36 (.tmp 1) 0, type := 0, pos := "parse.go:20", after := #[], guard := none }) (v := (.pointer (some ⟨w.heap.size, 0, none⟩))) rfl (by kernel_rfl) (by kernel_rfl) (by kernel_rfl) (fun _ _ _ h => h) (Or.inl ⟨by rfl, ?_⟩) hHeld ?_
  · intro w9 hSw
    try dsimp only at hSw
    go_simp
  try simp only [Act.put, List.setIfInBounds_toArray, List.set_cons_zero, List.set_cons_succ]
  refine wpAnyH_take (i := 1) (oi := { dst := some 17, op := Op.load 3 (.tmp 16), type := 3, pos := "parse.go:20", after := #[{ on := 0, ground := Ground.data }], guard := none }) (v := (.int .i64 f)) rfl (by kernel_rfl) (by kernel_rfl) (by kernel_rfl) (fun _ _ _ h => h) (Or.inl ⟨by rfl, ?_⟩) hHeld ?_
  · intro w9 hSw
    try dsimp only at hSw
    go_simp
  try simp only [Act.put, List.setIfInBounds_toArray, List.set_cons_zero, List.set_cons_succ]
  refine wpAnyH_take (i := 3) (oi := { dst := some 19, op := Op.fieldAddr 36 (.tmp 1) 3, type := 0, pos := "parse.go:20", after := #[], guard := none }) (v := (.pointer (some ⟨w.heap.size, 7, none⟩))) rfl (by kernel_rfl) (by kernel_rfl) (by kernel_rfl) (fun _ _ _ h => h) (Or.inl ⟨by rfl, ?_⟩) hHeld ?_
  · intro w9 hSw
    try dsimp only at hSw
    go_simp
  try simp only [Act.put, List.setIfInBounds_toArray, List.set_cons_zero, List.set_cons_succ]
  refine wpAnyH_take (i := 4) (oi := { dst := some 20, op := Op.load 3 (.tmp 19), type := 3, pos := "parse.go:20", after := #[{ on := 3, ground := Ground.data }], guard := none }) (v := (.int .i64 pr)) rfl (by kernel_rfl) (by kernel_rfl) (by kernel_rfl) (fun _ _ _ h => h) (Or.inl ⟨by rfl, ?_⟩) hHeld ?_
  · intro w9 hSw
    try dsimp only at hSw
    go_simp
  try simp only [Act.put, List.setIfInBounds_toArray, List.set_cons_zero, List.set_cons_succ]
  refine wpAnyH_ready (rs := [2]) (by kernel_rfl) (by simp) ?_
  refine AllReadyH.cons (o := { dst := some 18, op := Op.call { callee := Callee.value (.func 33), args := #[.tmp 17], argTypes := #[3] }, type := 62, pos := "parse.go:20", after := #[{ on := 1, ground := Ground.data }], guard := none }) rfl (fun K hK => ?_) AllReadyH.nil
  go_simp
  refine Calls.mono (KR.out _) ?_
  rintro e W4 ⟨es, G, rfl, hes, htab, bb⟩
  have B4 := B3.drew.kept bb
  have B4' := B3'.drew.kept bb
  have b4 : Below w.heap.size w W4 := b3.drew.trans (bb.mono b3.drew.size)
  have hlk := htab W4 G 3 pr hes
  rw [hfv, hkn] at hlk
  refine hK.out _ _ ?_ (fun hHeld => ?_)
  · exact ⟨B4.cell 0 _ rfl, B4.cell 7 _ rfl⟩
  clear hK K
  try simp only [Act.put, List.setIfInBounds_toArray, List.set_cons_zero, List.set_cons_succ]
  refine wpAnyH_ready (rs := [5]) (by kernel_rfl) (by simp) ?_
  refine AllReadyH.cons (o := { dst := some 21, op := Op.lookup 62 (.tmp 18) (.tmp 20) true, type := 61, pos := "parse.go:20", after := #[{ on := 2, ground := Ground.data }, { on := 4, ground := Ground.data }], guard := none }) rfl (fun K hK => ?_) AllReadyH.nil
  refine step_look rfl _ _ rfl _ _ _ (by kernel_rfl) (by kernel_rfl) hlk ?_
  refine hK.out _ _ ?_ (fun hHeld => ?_)
  · exact ⟨B4.cell 0 _ rfl, B4.cell 7 _ rfl⟩
  clear hK K
  try simp only [Act.put, List.setIfInBounds_toArray, List.set_cons_zero, List.set_cons_succ]
  refine wpAnyH_take (i := 6) (oi := { dst := some 15, op := Op.move (.tmp 21), type := 61, pos := "parse.go:20", after := #[{ on := 5, ground := Ground.data }], guard := none }) (v := (.tuple #[.func (.func fn) #[] #[], .bool true])) rfl (by kernel_rfl) (by kernel_rfl) (by kernel_rfl) (fun _ _ _ h => h) (Or.inl ⟨by rfl, ?_⟩) hHeld ?_
  · intro w9 hSw
    try dsimp only at hSw
    go_simp
  try simp only [Act.put, List.setIfInBounds_toArray, List.set_cons_zero, List.set_cons_succ]
  refine wpAnyH_take (i := 7) (oi := { dst := some 22, op := Op.extract (.tmp 15) 0, type := 60, pos := "parse.go:20", after := #[{ on := 6, ground := Ground.data }], guard := none }) (v := (.func (.func fn) #[] #[])) rfl (by kernel_rfl) (by kernel_rfl) (by kernel_rfl) (fun _ _ _ h => h) (Or.inl ⟨by rfl, ?_⟩) hHeld ?_
  · intro w9 hSw
    try dsimp only at hSw
    go_simp
  try simp only [Act.put, List.setIfInBounds_toArray, List.set_cons_zero, List.set_cons_succ]
  refine wpAnyH_take (i := 8) (oi := { dst := some 23, op := Op.extract (.tmp 15) 1, type := 4, pos := "parse.go:20", after := #[{ on := 6, ground := Ground.data }, { on := 9, ground := Ground.gcOnly Departure.lateStores }], guard := none }) (v := (.bool true)) rfl (by kernel_rfl) (by kernel_rfl) (by kernel_rfl) (fun _ _ _ h => h) (Or.inl ⟨by rfl, ?_⟩) hHeld ?_
  · intro w9 hSw
    try dsimp only at hSw
    go_simp
  try simp only [Act.put, List.setIfInBounds_toArray, List.set_cons_zero, List.set_cons_succ]
  refine wpAnyH_take (i := 9) (oi := { dst := some 4, op := Op.assign (.tmp 22), type := 60, pos := "parse.go:20", after := #[{ on := 7, ground := Ground.data }, { on := 2, ground := Ground.chain }, { on := 0, ground := Ground.phase }, { on := 1, ground := Ground.phase }, { on := 2, ground := Ground.phase }, { on := 3, ground := Ground.phase }, { on := 4, ground := Ground.phase }, { on := 5, ground := Ground.phase }, { on := 6, ground := Ground.phase }, { on := 7, ground := Ground.phase }, { on := 8, ground := Ground.textOnly Departure.lateStores }], guard := none }) (v := (.func (.func fn) #[] #[])) rfl (by kernel_rfl) (by kernel_rfl) (by kernel_rfl) (fun _ _ _ h => h) (Or.inl ⟨by rfl, ?_⟩) hHeld ?_
  · intro w9 hSw
    try dsimp only at hSw
    go_simp
  try simp only [Act.put, List.setIfInBounds_toArray, List.set_cons_zero, List.set_cons_succ]
  refine wpAnyH_take (i := 10) (oi := { dst := some 5, op := Op.assign (.tmp 23), type := 4, pos := "parse.go:20", after := #[{ on := 8, ground := Ground.data }, { on := 9, ground := Ground.chain }, { on := 0, ground := Ground.phase }, { on := 1, ground := Ground.phase }, { on := 2, ground := Ground.phase }, { on := 3, ground := Ground.phase }, { on := 4, ground := Ground.phase }, { on := 5, ground := Ground.phase }, { on := 6, ground := Ground.phase }, { on := 7, ground := Ground.phase }, { on := 8, ground := Ground.phase }, { on := 9, ground := Ground.phase }], guard := none }) (v := (.bool true)) rfl (by kernel_rfl) (by kernel_rfl) (by kernel_rfl) (fun _ _ _ h => h) (Or.inl ⟨by rfl, ?_⟩) hHeld ?_
  · intro w9 hSw
    try dsimp only at hSw
    go_simp
  try simp only [Act.put, List.setIfInBounds_toArray, List.set_cons_zero, List.set_cons_succ]
  refine wpAnyH_done (by kernel_rfl) ?_ _
  refine NoPanic.normal ?_
  have r4 := h.below b4
  clear hlk htab hes B3 B3' b3 KR hHeld hfv hkn
  go_wp2_with (refine wpList_load_row rfl _ _ rfl w.heap.size (by rfl) _ _ _ _ B4 Try.underlying36 rfl (by kernel_rfl) ?_)
  refine Calls.mono (HKF.out _ r4) ?_
  rintro e W5 ⟨a5, c5, rfl, f5⟩
  have B5 := B4'.kept f5.below
  have b5 : Below w.heap.size w W5 := b4.trans (f5.below.mono b4.size)
  have Bf := B5.set (sgv X a5 c5)
  have bf := below_setRow b5 (Nat.le_of_lt g1) (sgv X a5 c5)
  have oo := owns_le (B' := w.heap.size) b4.size (f5.owns.blk_other B5 (by decide) (sgv X a5 c5))
  clear HKF B4 B4' b4 r4 hcf
  go_wp2_with (refine wpList_store_row rfl _ _ _ rfl W1.heap.size (sgv X a5 c5) (by rfl) (by rfl) _ _ B5 (by kernel_rfl) (by rfl) (by kernel_rfl) ?_)
  refine ret_cell_tmp (k := 2) (j := 3) Try.f16 (by kernel_rfl) Bf Try.underlying38 (by kernel_rfl) (by rfl) (by rfl) rfl ?_
  exact ⟨a5, c5, rfl, oo, f5.room, f5.nil, oo.row f5.row.small f5.row.bytes, bf⟩

theorem segParse_17 (f sf sh sl df dh dl pr ho : Int) (fg : Bool) (id of : Int) (mo : Bool) (xa : Option Addr) (xn xc : Nat) (da : Option Addr) (dc : Nat) (l : List Int) (w : World) (h : Row w da l) (hnil : da = none → dc = 0) (hc : l.length ≤ dc) (hcm : dc ≤ 9223372036854775807) (hll : l.length ≤ 140737488351232) (hs : Ad.ok ⟨sf, sh, sl⟩) (hd : Ad.ok ⟨df, dh, dl⟩) (hE : endsB f ⟨sf, sh, sl⟩ ⟨df, dh, dl⟩ = true) (h17 : pr = 17) :
    Calls Try.prog 16 #[.agg #[.int .i64 f, .int .i64 sf, .int .u64 sh, .int .u64 sl, .int .i64 df, .int .u64 dh, .int .u64 dl, .int .i64 pr, .int .i64 ho, .bool fg, .int .u32 id, .int .i64 of, .bool mo, .slice xa xn xc, .slice da l.length dc]] w (GotS w (segE f pr ⟨sf, sh, sl⟩ ⟨df, dh, dl⟩ l) (segX f pr ⟨sf, sh, sl⟩ ⟨df, dh, dl⟩ l)) := by
  have h6 : ¬ pr = 6 := by omega
  unfold segX
  obtain ⟨E, hEE⟩ : ∃ E, segE f pr ⟨sf, sh, sl⟩ ⟨df, dh, dl⟩ l = E := ⟨_, rfl⟩
  rw [hEE]
  unfold segE at hEE
  rw [hE, if_neg (by decide), if_neg h6, if_pos h17] at hEE
  rw [if_neg h6, if_pos h17]
  refine parse_y f sf sh sl df dh dl pr ho fg id of mo xa xn xc da dc l w h hnil hc hcm hll hs hd hE 56 (by unfold lookS; rw [if_neg h6, if_pos h17]) (by unfold knownS; simp [h17]) Try.call56 _ _ (fun W hW => ?_)
  have := udp_any f sf sh sl df dh dl pr ho fg id of mo xa xn xc da dc l W hW hnil hc hcm hs hd
  rw [hEE] at this
  exact this

end Go.Proofs.Ytgdpcomcndidcaa
