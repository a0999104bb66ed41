/- Segments: UDP and TCP are read. -/
import Derived.Test.YtgdpcomcndidcaaSgqA
namespace Go.Proofs.Ytgdpcomcndidcaa
open Go.RowKit
set_option linter.unusedVariables false
set_option linter.unusedSimpArgs false

theorem u16v_bd {l : List Int} (hb : M.Bytes l) (x : Int) : 0 ≤ u16v l x ∧ u16v l x ≤ 65535 := by
  unfold u16v
  split
  · exact u16_bd hb x
  · omega
/-- A struct that is built, by one equation. -/
theorem wpList_build {ops : Array Oper} {rest : List Oper} {o : Oper} {ac : Act} {Q : Exit → Act → World → Prop} (w : World) (hgd : o.guard = none) (t : TypeId) (parts : Array (Nat × Operand)) (ho : o.op = Op.build t parts)
    (vs : Array (Nat × Value)) (hv : parts.map (fun p => (p.1, ac.eval p.2)) = vs) (r : Value) (hrun : (Instr.build t vs).run Try.prog w = .ok r w) (h : wpList Try.prog ops Q rest (ac.put o.dst r) w) : wpList Try.prog ops Q (o :: rest) ac w := by
  refine wpList_plain hgd fun K hK => ?_
  unfold Oper.wp
  subst hv
  simp [execOp, ho, hrun, Result.andThen]
  exact hK _ _ h

set_option maxRecDepth 100000 in
set_option maxHeartbeats 4000000 in
theorem udp_e2 (f sf sh sl df dh dl pr ho : Int) (fg : Bool) (id of : Int) (mo : Bool) (xa : Option Addr) (xn xc : Nat) (da : Option Addr) (dc : Nat) (l : List Int) (w : World) (h : Row w da l) (hnil : da = none → dc = 0) (hc : l.length ≤ dc) (hcm : dc ≤ 9223372036854775807) (hs : Ad.ok ⟨sf, sh, sl⟩) (hd : Ad.ok ⟨df, dh, dl⟩) (h8 : l.length < 8) :
    Calls Try.prog 56 #[.agg #[.int .i64 f, .int .i64 sf, .int .u64 sh, .int .u64 sl, .int .i64 df, .int .u64 dh, .int .u64 dl, .int .i64 pr, .int .i64 ho, .bool fg, .int .u32 id, .int .i64 of, .bool mo, .slice xa xn xc, .slice da l.length dc]] w (GotS w 2 zSg) := by
  obtain ⟨W1, hW1⟩ : ∃ W1, w.alloc (.cells #[.int .i64 f, .int .i64 sf, .int .u64 sh, .int .u64 sl, .int .i64 df, .int .u64 dh, .int .u64 dl, .int .i64 pr, .int .i64 ho, .bool fg, .int .u32 id, .int .i64 of, .bool mo, .slice xa xn xc, .slice da l.length dc] 64) = W1 := ⟨_, rfl⟩
  obtain ⟨W2, hW2⟩ : ∃ W2, W1.alloc (.cells #[.int .i64 0, .int .i64 0, .int .i64 0, .int .u64 0, .int .u64 0, .int .i64 0, .int .u64 0, .int .u64 0, .int .i64 0, .int .i64 0, .int .i64 0, .int .u32 0, .int .u32 0, .int .i64 0, .int .i64 0, .int .i64 0, .bool false, .int .i64 0, .int .i64 0, .int .i64 0, .int .u64 0, .int .u64 0, .int .i64 0, .int .u64 0, .int .u64 0, .int .i64 0, .int .i64 0, .slice none 0 0] 38) = W2 := ⟨_, rfl⟩
  have b1 : Below w.heap.size w W1 := by rw [← hW1]; exact (Below.refl _ _).alloc (Nat.le_refl _) _
  have b2 : Below w.heap.size w W2 := by rw [← hW2]; exact b1.alloc b1.size _
  have B1' : Blk W1 w.heap.size 64 #[.int .i64 f, .int .i64 sf, .int .u64 sh, .int .u64 sl, .int .i64 df, .int .u64 dh, .int .u64 dl, .int .i64 pr, .int .i64 ho, .bool fg, .int .u32 id, .int .i64 of, .bool mo, .slice xa xn xc, .slice da l.length dc] := by rw [← hW1]; exact blk_new _ _ _
  have B1 : Blk W2 w.heap.size 64 #[.int .i64 f, .int .i64 sf, .int .u64 sh, .int .u64 sl, .int .i64 df, .int .u64 dh, .int .u64 dl, .int .i64 pr, .int .i64 ho, .bool fg, .int .u32 id, .int .i64 of, .bool mo, .slice xa xn xc, .slice da l.length dc] := by rw [← hW2]; exact B1'.alloc _
  have B2 : Blk W2 W1.heap.size 38 #[.int .i64 0, .int .i64 0, .int .i64 0, .int .u64 0, .int .u64 0, .int .i64 0, .int .u64 0, .int .u64 0, .int .i64 0, .int .i64 0, .int .i64 0, .int .u32 0, .int .u32 0, .int .i64 0, .int .i64 0, .int .i64 0, .bool false, .int .i64 0, .int .i64 0, .int .i64 0, .int .u64 0, .int .u64 0, .int .i64 0, .int .u64 0, .int .u64 0, .int .i64 0, .int .i64 0, .slice none 0 0] := by rw [← hW2]; exact blk_new _ _ _
  have g1 : w.heap.size < W1.heap.size := B1'.lt
  clear B1'
  have d0 := B1.cell 0 (.int .i64 f) rfl
  have d14 := B1.cell 14 (.slice da l.length dc) rfl
  have h8' : (l.length : Int) < 8 := by omega
  have hbz : (Instr.build 38 #[]).run Try.prog W2 = .ok (.agg #[.int .i64 0, .int .i64 0, .int .i64 0, .int .u64 0, .int .u64 0, .int .i64 0, .int .u64 0, .int .u64 0, .int .i64 0, .int .i64 0, .int .i64 0, .int .u32 0, .int .u32 0, .int .i64 0, .int .i64 0, .int .i64 0, .bool false, .int .i64 0, .int .i64 0, .int .i64 0, .int .u64 0, .int .u64 0, .int .i64 0, .int .u64 0, .int .u64 0, .int .i64 0, .int .i64 0, .slice none 0 0]) W2 := by kernel_rfl
  go_enter Try.func56, Try.ntmps56
  have Bf := B2.set #[.int .i64 0, .int .i64 0, .int .i64 0, .int .u64 0, .int .u64 0, .int .i64 0, .int .u64 0, .int .u64 0, .int .i64 0, .int .i64 0, .int .i64 0, .int .u32 0, .int .u32 0, .int .i64 0, .int .i64 0, .int .i64 0, .bool false, .int .i64 0, .int .i64 0, .int .i64 0, .int .u64 0, .int .u64 0, .int .i64 0, .int .u64 0, .int .u64 0, .int .i64 0, .int .i64 0, .slice none 0 0]
  have bf := below_setRow b2 (Nat.le_of_lt g1) #[.int .i64 0, .int .i64 0, .int .i64 0, .int .u64 0, .int .u64 0, .int .i64 0, .int .u64 0, .int .u64 0, .int .i64 0, .int .i64 0, .int .i64 0, .int .u32 0, .int .u32 0, .int .i64 0, .int .i64 0, .int .i64 0, .bool false, .int .i64 0, .int .i64 0, .int .i64 0, .int .u64 0, .int .u64 0, .int .i64 0, .int .u64 0, .int .u64 0, .int .i64 0, .int .i64 0, .slice none 0 0]
  go_wp2_with (first
    | (refine wpList_build _ rfl _ _ rfl _ (by rfl) _ hbz ?_)
    | (refine wpList_store_row rfl _ _ _ rfl W1.heap.size #[.int .i64 0, .int .i64 0, .int .i64 0, .int .u64 0, .int .u64 0, .int .i64 0, .int .u64 0, .int .u64 0, .int .i64 0, .int .i64 0, .int .i64 0, .int .u32 0, .int .u32 0, .int .i64 0, .int .i64 0, .int .i64 0, .bool false, .int .i64 0, .int .i64 0, .int .i64 0, .int .u64 0, .int .u64 0, .int .i64 0, .int .u64 0, .int .u64 0, .int .i64 0, .int .i64 0, .slice none 0 0] (by rfl) (by rfl) _ _ B2 (by kernel_rfl) (by rfl) (by kernel_rfl) ?_))
  exact ret_cell_tmp (k := 2) (j := 3) Try.f56 (by kernel_rfl) Bf Try.underlying38 (by kernel_rfl) (by rfl) (by rfl) rfl ⟨none, 0, rfl, fresh_nil bf⟩

set_option maxRecDepth 100000 in
set_option maxHeartbeats 4000000 in
theorem udp_e5a (f sf sh sl df dh dl pr ho : Int) (fg : Bool) (id of : Int) (mo : Bool) (xa : Option Addr) (xn xc : Nat) (da : Option Addr) (dc : Nat) (l : List Int) (w : World) (h : Row w da l) (hnil : da = none → dc = 0) (hc : l.length ≤ dc) (hcm : dc ≤ 9223372036854775807) (hs : Ad.ok ⟨sf, sh, sl⟩) (hd : Ad.ok ⟨df, dh, dl⟩) (h8 : ¬ l.length < 8) (h5 : u16v l 4 < 8) :
    Calls Try.prog 56 #[.agg #[.int .i64 f, .int .i64 sf, .int .u64 sh, .int .u64 sl, .int .i64 df, .int .u64 dh, .int .u64 dl, .int .i64 pr, .int .i64 ho, .bool fg, .int .u32 id, .int .i64 of, .bool mo, .slice xa xn xc, .slice da l.length dc]] w (GotS w 5 zSg) := by
  obtain ⟨W1, hW1⟩ : ∃ W1, w.alloc (.cells #[.int .i64 f, .int .i64 sf, .int .u64 sh, .int .u64 sl, .int .i64 df, .int .u64 dh, .int .u64 dl, .int .i64 pr, .int .i64 ho, .bool fg, .int .u32 id, .int .i64 of, .bool mo, .slice xa xn xc, .slice da l.length dc] 64) = W1 := ⟨_, rfl⟩
  obtain ⟨W2, hW2⟩ : ∃ W2, W1.alloc (.cells #[.int .i64 0, .int .i64 0, .int .i64 0, .int .u64 0, .int .u64 0, .int .i64 0, .int .u64 0, .int .u64 0, .int .i64 0, .int .i64 0, .int .i64 0, .int .u32 0, .int .u32 0, .int .i64 0, .int .i64 0, .int .i64 0, .bool false, .int .i64 0, .int .i64 0, .int .i64 0, .int .u64 0, .int .u64 0, .int .i64 0, .int .u64 0, .int .u64 0, .int .i64 0, .int .i64 0, .slice none 0 0] 38) = W2 := ⟨_, rfl⟩
  have b1 : Below w.heap.size w W1 := by rw [← hW1]; exact (Below.refl _ _).alloc (Nat.le_refl _) _
  have b2 : Below w.heap.size w W2 := by rw [← hW2]; exact b1.alloc b1.size _
  have B1' : Blk W1 w.heap.size 64 #[.int .i64 f, .int .i64 sf, .int .u64 sh, .int .u64 sl, .int .i64 df, .int .u64 dh, .int .u64 dl, .int .i64 pr, .int .i64 ho, .bool fg, .int .u32 id, .int .i64 of, .bool mo, .slice xa xn xc, .slice da l.length dc] := by rw [← hW1]; exact blk_new _ _ _
  have B1 : Blk W2 w.heap.size 64 #[.int .i64 f, .int .i64 sf, .int .u64 sh, .int .u64 sl, .int .i64 df, .int .u64 dh, .int .u64 dl, .int .i64 pr, .int .i64 ho, .bool fg, .int .u32 id, .int .i64 of, .bool mo, .slice xa xn xc, .slice da l.length dc] := by rw [← hW2]; exact B1'.alloc _
  have B2 : Blk W2 W1.heap.size 38 #[.int .i64 0, .int .i64 0, .int .i64 0, .int .u64 0, .int .u64 0, .int .i64 0, .int .u64 0, .int .u64 0, .int .i64 0, .int .i64 0, .int .i64 0, .int .u32 0, .int .u32 0, .int .i64 0, .int .i64 0, .int .i64 0, .bool false, .int .i64 0, .int .i64 0, .int .i64 0, .int .u64 0, .int .u64 0, .int .i64 0, .int .u64 0, .int .u64 0, .int .i64 0, .int .i64 0, .slice none 0 0] := by rw [← hW2]; exact blk_new _ _ _
  have g1 : w.heap.size < W1.heap.size := B1'.lt
  clear B1'
  have d0 := B1.cell 0 (.int .i64 f) rfl
  have d14 := B1.cell 14 (.slice da l.length dc) rfl
  have h8' : ¬ (l.length : Int) < 8 := by omega
  have hnn := u16v_bd h.bytes 4
  obtain ⟨nn, hn⟩ := Int.eq_ofNat_of_zero_le hnn.1
  have K1 := segU16_any da dc l 4 W2 (h.below b2) (by decide)
  rw [hn] at K1
  have K1 : Hid _ := K1
  rw [hn] at h5
  go_enter Try.func56, Try.ntmps56
  go_wp2_with fail
  refine Calls.mono K1.out ?_
  rintro e W3 ⟨rfl, bb⟩
  have b3 : Below w.heap.size w W3 := b2.trans (bb.mono b2.size)
  have B3 := B1.kept bb
  have B3' := B2.kept bb
  have d0 := B3.cell 0 (.int .i64 f) rfl
  have d14 := B3.cell 14 (.slice da l.length dc) rfl
  clear K1 bb B1 B2 b2 hW1 hW2
  have hbz : (Instr.build 38 #[]).run Try.prog W3 = .ok (.agg #[.int .i64 0, .int .i64 0, .int .i64 0, .int .u64 0, .int .u64 0, .int .i64 0, .int .u64 0, .int .u64 0, .int .i64 0, .int .i64 0, .int .i64 0, .int .u32 0, .int .u32 0, .int .i64 0, .int .i64 0, .int .i64 0, .bool false, .int .i64 0, .int .i64 0, .int .i64 0, .int .u64 0, .int .u64 0, .int .i64 0, .int .u64 0, .int .u64 0, .int .i64 0, .int .i64 0, .slice none 0 0]) W3 := by kernel_rfl
  have Bf := B3'.set #[.int .i64 0, .int .i64 0, .int .i64 0, .int .u64 0, .int .u64 0, .int .i64 0, .int .u64 0, .int .u64 0, .int .i64 0, .int .i64 0, .int .i64 0, .int .u32 0, .int .u32 0, .int .i64 0, .int .i64 0, .int .i64 0, .bool false, .int .i64 0, .int .i64 0, .int .i64 0, .int .u64 0, .int .u64 0, .int .i64 0, .int .u64 0, .int .u64 0, .int .i64 0, .int .i64 0, .slice none 0 0]
  have bf := below_setRow b3 (Nat.le_of_lt g1) #[.int .i64 0, .int .i64 0, .int .i64 0, .int .u64 0, .int .u64 0, .int .i64 0, .int .u64 0, .int .u64 0, .int .i64 0, .int .i64 0, .int .i64 0, .int .u32 0, .int .u32 0, .int .i64 0, .int .i64 0, .int .i64 0, .bool false, .int .i64 0, .int .i64 0, .int .i64 0, .int .u64 0, .int .u64 0, .int .i64 0, .int .u64 0, .int .u64 0, .int .i64 0, .int .i64 0, .slice none 0 0]
  go_wp2_with (first
    | (refine wpList_build _ rfl _ _ rfl _ (by rfl) _ hbz ?_)
    | (refine wpList_store_row rfl _ _ _ rfl W1.heap.size #[.int .i64 0, .int .i64 0, .int .i64 0, .int .u64 0, .int .u64 0, .int .i64 0, .int .u64 0, .int .u64 0, .int .i64 0, .int .i64 0, .int .i64 0, .int .u32 0, .int .u32 0, .int .i64 0, .int .i64 0, .int .i64 0, .bool false, .int .i64 0, .int .i64 0, .int .i64 0, .int .u64 0, .int .u64 0, .int .i64 0, .int .u64 0, .int .u64 0, .int .i64 0, .int .i64 0, .slice none 0 0] (by rfl) (by rfl) _ _ B3' (by kernel_rfl) (by rfl) (by kernel_rfl) ?_))
  exact ret_cell_tmp (k := 2) (j := 3) Try.f56 (by kernel_rfl) Bf Try.underlying38 (by kernel_rfl) (by rfl) (by rfl) rfl ⟨none, 0, rfl, fresh_nil bf⟩

set_option maxRecDepth 100000 in
set_option maxHeartbeats 4000000 in
theorem udp_e5b (f sf sh sl df dh dl pr ho : Int) (fg : Bool) (id of : Int) (mo : Bool) (xa : Option Addr) (xn xc : Nat) (da : Option Addr) (dc : Nat) (l : List Int) (w : World) (h : Row w da l) (hnil : da = none → dc = 0) (hc : l.length ≤ dc) (hcm : dc ≤ 9223372036854775807) (hs : Ad.ok ⟨sf, sh, sl⟩) (hd : Ad.ok ⟨df, dh, dl⟩) (h8 : ¬ l.length < 8) (h5 : ¬ u16v l 4 < 8) (h6 : u16v l 4 > (l.length : Int)) :
    Calls Try.prog 56 #[.agg #[.int .i64 f, .int .i64 sf, .int .u64 sh, .int .u64 sl, .int .i64 df, .int .u64 dh, .int .u64 dl, .int .i64 pr, .int .i64 ho, .bool fg, .int .u32 id, .int .i64 of, .bool mo, .slice xa xn xc, .slice da l.length dc]] w (GotS w 5 zSg) := by
  obtain ⟨W1, hW1⟩ : ∃ W1, w.alloc (.cells #[.int .i64 f, .int .i64 sf, .int .u64 sh, .int .u64 sl, .int .i64 df, .int .u64 dh, .int .u64 dl, .int .i64 pr, .int .i64 ho, .bool fg, .int .u32 id, .int .i64 of, .bool mo, .slice xa xn xc, .slice da l.length dc] 64) = W1 := ⟨_, rfl⟩
  obtain ⟨W2, hW2⟩ : ∃ W2, W1.alloc (.cells #[.int .i64 0, .int .i64 0, .int .i64 0, .int .u64 0, .int .u64 0, .int .i64 0, .int .u64 0, .int .u64 0, .int .i64 0, .int .i64 0, .int .i64 0, .int .u32 0, .int .u32 0, .int .i64 0, .int .i64 0, .int .i64 0, .bool false, .int .i64 0, .int .i64 0, .int .i64 0, .int .u64 0, .int .u64 0, .int .i64 0, .int .u64 0, .int .u64 0, .int .i64 0, .int .i64 0, .slice none 0 0] 38) = W2 := ⟨_, rfl⟩
  have b1 : Below w.heap.size w W1 := by rw [← hW1]; exact (Below.refl _ _).alloc (Nat.le_refl _) _
  have b2 : Below w.heap.size w W2 := by rw [← hW2]; exact b1.alloc b1.size _
  have B1' : Blk W1 w.heap.size 64 #[.int .i64 f, .int .i64 sf, .int .u64 sh, .int .u64 sl, .int .i64 df, .int .u64 dh, .int .u64 dl, .int .i64 pr, .int .i64 ho, .bool fg, .int .u32 id, .int .i64 of, .bool mo, .slice xa xn xc, .slice da l.length dc] := by rw [← hW1]; exact blk_new _ _ _
  have B1 : Blk W2 w.heap.size 64 #[.int .i64 f, .int .i64 sf, .int .u64 sh, .int .u64 sl, .int .i64 df, .int .u64 dh, .int .u64 dl, .int .i64 pr, .int .i64 ho, .bool fg, .int .u32 id, .int .i64 of, .bool mo, .slice xa xn xc, .slice da l.length dc] := by rw [← hW2]; exact B1'.alloc _
  have B2 : Blk W2 W1.heap.size 38 #[.int .i64 0, .int .i64 0, .int .i64 0, .int .u64 0, .int .u64 0, .int .i64 0, .int .u64 0, .int .u64 0, .int .i64 0, .int .i64 0, .int .i64 0, .int .u32 0, .int .u32 0, .int .i64 0, .int .i64 0, .int .i64 0, .bool false, .int .i64 0, .int .i64 0, .int .i64 0, .int .u64 0, .int .u64 0, .int .i64 0, .int .u64 0, .int .u64 0, .int .i64 0, .int .i64 0, .slice none 0 0] := by rw [← hW2]; exact blk_new _ _ _
  have g1 : w.heap.size < W1.heap.size := B1'.lt
  clear B1'
  have d0 := B1.cell 0 (.int .i64 f) rfl
  have d14 := B1.cell 14 (.slice da l.length dc) rfl
  have h8' : ¬ (l.length : Int) < 8 := by omega
  have hnn := u16v_bd h.bytes 4
  obtain ⟨nn, hn⟩ := Int.eq_ofNat_of_zero_le hnn.1
  have K1 := segU16_any da dc l 4 W2 (h.below b2) (by decide)
  rw [hn] at K1
  have K1 : Hid _ := K1
  rw [hn] at h5 h6
  go_enter Try.func56, Try.ntmps56
  go_wp2_with fail
  refine Calls.mono K1.out ?_
  rintro e W3 ⟨rfl, bb⟩
  have b3 : Below w.heap.size w W3 := b2.trans (bb.mono b2.size)
  have B3 := B1.kept bb
  have B3' := B2.kept bb
  have d0 := B3.cell 0 (.int .i64 f) rfl
  have d14 := B3.cell 14 (.slice da l.length dc) rfl
  clear K1 bb B1 B2 b2 hW1 hW2
  have hbz : (Instr.build 38 #[]).run Try.prog W3 = .ok (.agg #[.int .i64 0, .int .i64 0, .int .i64 0, .int .u64 0, .int .u64 0, .int .i64 0, .int .u64 0, .int .u64 0, .int .i64 0, .int .i64 0, .int .i64 0, .int .u32 0, .int .u32 0, .int .i64 0, .int .i64 0, .int .i64 0, .bool false, .int .i64 0, .int .i64 0, .int .i64 0, .int .u64 0, .int .u64 0, .int .i64 0, .int .u64 0, .int .u64 0, .int .i64 0, .int .i64 0, .slice none 0 0]) W3 := by kernel_rfl
  have Bf := B3'.set #[.int .i64 0, .int .i64 0, .int .i64 0, .int .u64 0, .int .u64 0, .int .i64 0, .int .u64 0, .int .u64 0, .int .i64 0, .int .i64 0, .int .i64 0, .int .u32 0, .int .u32 0, .int .i64 0, .int .i64 0, .int .i64 0, .bool false, .int .i64 0, .int .i64 0, .int .i64 0, .int .u64 0, .int .u64 0, .int .i64 0, .int .u64 0, .int .u64 0, .int .i64 0, .int .i64 0, .slice none 0 0]
  have bf := below_setRow b3 (Nat.le_of_lt g1) #[.int .i64 0, .int .i64 0, .int .i64 0, .int .u64 0, .int .u64 0, .int .i64 0, .int .u64 0, .int .u64 0, .int .i64 0, .int .i64 0, .int .i64 0, .int .u32 0, .int .u32 0, .int .i64 0, .int .i64 0, .int .i64 0, .bool false, .int .i64 0, .int .i64 0, .int .i64 0, .int .u64 0, .int .u64 0, .int .i64 0, .int .u64 0, .int .u64 0, .int .i64 0, .int .i64 0, .slice none 0 0]
  go_wp2_with (first
    | (refine wpList_build _ rfl _ _ rfl _ (by rfl) _ hbz ?_)
    | (refine wpList_store_row rfl _ _ _ rfl W1.heap.size #[.int .i64 0, .int .i64 0, .int .i64 0, .int .u64 0, .int .u64 0, .int .i64 0, .int .u64 0, .int .u64 0, .int .i64 0, .int .i64 0, .int .i64 0, .int .u32 0, .int .u32 0, .int .i64 0, .int .i64 0, .int .i64 0, .bool false, .int .i64 0, .int .i64 0, .int .i64 0, .int .u64 0, .int .u64 0, .int .i64 0, .int .u64 0, .int .u64 0, .int .i64 0, .int .i64 0, .slice none 0 0] (by rfl) (by rfl) _ _ B3' (by kernel_rfl) (by rfl) (by kernel_rfl) ?_))
  exact ret_cell_tmp (k := 2) (j := 3) Try.f56 (by kernel_rfl) Bf Try.underlying38 (by kernel_rfl) (by rfl) (by rfl) rfl ⟨none, 0, rfl, fresh_nil bf⟩

set_option maxRecDepth 100000 in
set_option maxHeartbeats 4000000 in
theorem udp_e6a (f sf sh sl df dh dl pr ho : Int) (fg : Bool) (id of : Int) (mo : Bool) (xa : Option Addr) (xn xc : Nat) (da : Option Addr) (dc : Nat) (l : List Int) (w : World) (h : Row w da l) (hnil : da = none → dc = 0) (hc : l.length ≤ dc) (hcm : dc ≤ 9223372036854775807) (hs : Ad.ok ⟨sf, sh, sl⟩) (hd : Ad.ok ⟨df, dh, dl⟩) (h8 : ¬ l.length < 8) (h5 : ¬ u16v l 4 < 8) (h6 : ¬ u16v l 4 > (l.length : Int)) (hz : u16v (l.take (u16v l 4).toNat) 6 = 0) (h66 : f = 6) :
    Calls Try.prog 56 #[.agg #[.int .i64 f, .int .i64 sf, .int .u64 sh, .int .u64 sl, .int .i64 df, .int .u64 dh, .int .u64 dl, .int .i64 pr, .int .i64 ho, .bool fg, .int .u32 id, .int .i64 of, .bool mo, .slice xa xn xc, .slice da l.length dc]] w (GotS w 6 zSg) := by
  obtain ⟨W1, hW1⟩ : ∃ W1, w.alloc (.cells #[.int .i64 f, .int .i64 sf, .int .u64 sh, .int .u64 sl, .int .i64 df, .int .u64 dh, .int .u64 dl, .int .i64 pr, .int .i64 ho, .bool fg, .int .u32 id, .int .i64 of, .bool mo, .slice xa xn xc, .slice da l.length dc] 64) = W1 := ⟨_, rfl⟩
  obtain ⟨W2, hW2⟩ : ∃ W2, W1.alloc (.cells #[.int .i64 0, .int .i64 0, .int .i64 0, .int .u64 0, .int .u64 0, .int .i64 0, .int .u64 0, .int .u64 0, .int .i64 0, .int .i64 0, .int .i64 0, .int .u32 0, .int .u32 0, .int .i64 0, .int .i64 0, .int .i64 0, .bool false, .int .i64 0, .int .i64 0, .int .i64 0, .int .u64 0, .int .u64 0, .int .i64 0, .int .u64 0, .int .u64 0, .int .i64 0, .int .i64 0, .slice none 0 0] 38) = W2 := ⟨_, rfl⟩
  have b1 : Below w.heap.size w W1 := by rw [← hW1]; exact (Below.refl _ _).alloc (Nat.le_refl _) _
  have b2 : Below w.heap.size w W2 := by rw [← hW2]; exact b1.alloc b1.size _
  have B1' : Blk W1 w.heap.size 64 #[.int .i64 f, .int .i64 sf, .int .u64 sh, .int .u64 sl, .int .i64 df, .int .u64 dh, .int .u64 dl, .int .i64 pr, .int .i64 ho, .bool fg, .int .u32 id, .int .i64 of, .bool mo, .slice xa xn xc, .slice da l.length dc] := by rw [← hW1]; exact blk_new _ _ _
  have B1 : Blk W2 w.heap.size 64 #[.int .i64 f, .int .i64 sf, .int .u64 sh, .int .u64 sl, .int .i64 df, .int .u64 dh, .int .u64 dl, .int .i64 pr, .int .i64 ho, .bool fg, .int .u32 id, .int .i64 of, .bool mo, .slice xa xn xc, .slice da l.length dc] := by rw [← hW2]; exact B1'.alloc _
  have B2 : Blk W2 W1.heap.size 38 #[.int .i64 0, .int .i64 0, .int .i64 0, .int .u64 0, .int .u64 0, .int .i64 0, .int .u64 0, .int .u64 0, .int .i64 0, .int .i64 0, .int .i64 0, .int .u32 0, .int .u32 0, .int .i64 0, .int .i64 0, .int .i64 0, .bool false, .int .i64 0, .int .i64 0, .int .i64 0, .int .u64 0, .int .u64 0, .int .i64 0, .int .u64 0, .int .u64 0, .int .i64 0, .int .i64 0, .slice none 0 0] := by rw [← hW2]; exact blk_new _ _ _
  have g1 : w.heap.size < W1.heap.size := B1'.lt
  clear B1'
  have d0 := B1.cell 0 (.int .i64 f) rfl
  have d14 := B1.cell 14 (.slice da l.length dc) rfl
  have h8' : ¬ (l.length : Int) < 8 := by omega
  have hnn := u16v_bd h.bytes 4
  obtain ⟨nn, hn⟩ := Int.eq_ofNat_of_zero_le hnn.1
  have K1 := segU16_any da dc l 4 W2 (h.below b2) (by decide)
  rw [hn] at K1
  have K1 : Hid _ := K1
  rw [hn] at h5 h6
  have n8 : 8 ≤ nn := by omega
  have nl : nn ≤ l.length := by omega
  have j1 : (0 : Int) ≤ (nn : Int) := by omega
  have j2 : (nn : Int) ≤ (dc : Int) := by omega
  have j3 : nn ≤ dc := by omega
  obtain ⟨b, hb⟩ : ∃ b, l.take nn = b := ⟨_, rfl⟩
  have lb : b.length = nn := by rw [← hb, List.length_take]; omega
  have hnt : (u16v l 4).toNat = nn := by rw [hn]; simp
  rw [hnt, hb] at hz
  have RB : Hid (∀ W, Row W da l → Row W da b) := fun W hW => by rw [← hb]; exact hW.take nn
  obtain ⟨z, hz0⟩ : ∃ z, u16v b 6 = z := ⟨_, rfl⟩
  have K2 : Hid (∀ W, Row W da l → Calls Try.prog 71 #[.slice da nn dc, .int .i64 6] W fun e w' => e = .returned (.int .i64 z) ∧ Below W.heap.size W w') := fun W hW => by
    have := segU16_any da dc b 6 W (RB.out W hW) (by decide)
    rw [hz0, lb] at this
    exact this
  rw [hz0] at hz
  subst hz
  have HB : Hid (l.take nn = b ∧ b.length = nn ∧ (u16v l 4).toNat = nn) := ⟨hb, lb, hnt⟩
  clear hb lb hnt hnn hn
  have f6 : (f == 6) = true := by simpa using h66
  clear h66
  go_enter Try.func56, Try.ntmps56
  go_wp2_with fail
  refine Calls.mono K1.out ?_
  rintro e W3 ⟨rfl, bb⟩
  have b3 : Below w.heap.size w W3 := b2.trans (bb.mono b2.size)
  have B3 := B1.kept bb
  have B3' := B2.kept bb
  have d0 := B3.cell 0 (.int .i64 f) rfl
  have d14 := B3.cell 14 (.slice da l.length dc) rfl
  clear K1 bb B1 B2 b2 hW1 hW2
  go_wp2_with fail
  refine Calls.mono (K2.out _ (h.below b3)) ?_
  rintro e W4 ⟨rfl, bb⟩
  have b4 : Below w.heap.size w W4 := b3.trans (bb.mono b3.size)
  have B4 := B3.kept bb
  have B4' := B3'.kept bb
  clear d0 d14
  have d0 := B4.cell 0 (.int .i64 f) rfl
  clear K2 bb B3 B3' b3
  have hbz : (Instr.build 38 #[]).run Try.prog W4 = .ok (.agg #[.int .i64 0, .int .i64 0, .int .i64 0, .int .u64 0, .int .u64 0, .int .i64 0, .int .u64 0, .int .u64 0, .int .i64 0, .int .i64 0, .int .i64 0, .int .u32 0, .int .u32 0, .int .i64 0, .int .i64 0, .int .i64 0, .bool false, .int .i64 0, .int .i64 0, .int .i64 0, .int .u64 0, .int .u64 0, .int .i64 0, .int .u64 0, .int .u64 0, .int .i64 0, .int .i64 0, .slice none 0 0]) W4 := by kernel_rfl
  have Bf := B4'.set #[.int .i64 0, .int .i64 0, .int .i64 0, .int .u64 0, .int .u64 0, .int .i64 0, .int .u64 0, .int .u64 0, .int .i64 0, .int .i64 0, .int .i64 0, .int .u32 0, .int .u32 0, .int .i64 0, .int .i64 0, .int .i64 0, .bool false, .int .i64 0, .int .i64 0, .int .i64 0, .int .u64 0, .int .u64 0, .int .i64 0, .int .u64 0, .int .u64 0, .int .i64 0, .int .i64 0, .slice none 0 0]
  have bf := below_setRow b4 (Nat.le_of_lt g1) #[.int .i64 0, .int .i64 0, .int .i64 0, .int .u64 0, .int .u64 0, .int .i64 0, .int .u64 0, .int .u64 0, .int .i64 0, .int .i64 0, .int .i64 0, .int .u32 0, .int .u32 0, .int .i64 0, .int .i64 0, .int .i64 0, .bool false, .int .i64 0, .int .i64 0, .int .i64 0, .int .u64 0, .int .u64 0, .int .i64 0, .int .u64 0, .int .u64 0, .int .i64 0, .int .i64 0, .slice none 0 0]
  go_wp2_with (first
    | (refine wpList_build _ rfl _ _ rfl _ (by rfl) _ hbz ?_)
    | (refine wpList_store_row rfl _ _ _ rfl W1.heap.size #[.int .i64 0, .int .i64 0, .int .i64 0, .int .u64 0, .int .u64 0, .int .i64 0, .int .u64 0, .int .u64 0, .int .i64 0, .int .i64 0, .int .i64 0, .int .u32 0, .int .u32 0, .int .i64 0, .int .i64 0, .int .i64 0, .bool false, .int .i64 0, .int .i64 0, .int .i64 0, .int .u64 0, .int .u64 0, .int .i64 0, .int .u64 0, .int .u64 0, .int .i64 0, .int .i64 0, .slice none 0 0] (by rfl) (by rfl) _ _ B4' (by kernel_rfl) (by rfl) (by kernel_rfl) ?_))
  exact ret_cell_tmp (k := 2) (j := 3) Try.f56 (by kernel_rfl) Bf Try.underlying38 (by kernel_rfl) (by rfl) (by rfl) rfl ⟨none, 0, rfl, fresh_nil bf⟩

set_option maxRecDepth 100000 in
set_option maxHeartbeats 4000000 in
theorem udp_e6b (f sf sh sl df dh dl pr ho : Int) (fg : Bool) (id of : Int) (mo : Bool) (xa : Option Addr) (xn xc : Nat) (da : Option Addr) (dc : Nat) (l : List Int) (w : World) (h : Row w da l) (hnil : da = none → dc = 0) (hc : l.length ≤ dc) (hcm : dc ≤ 9223372036854775807) (hs : Ad.ok ⟨sf, sh, sl⟩) (hd : Ad.ok ⟨df, dh, dl⟩) (h8 : ¬ l.length < 8) (h5 : ¬ u16v l 4 < 8) (h6 : ¬ u16v l 4 > (l.length : Int)) (hz : ¬ u16v (l.take (u16v l 4).toNat) 6 = 0) (hsum : sumsB ⟨sf, sh, sl⟩ ⟨df, dh, dl⟩ pr (l.take (u16v l 4).toNat) = false) :
    Calls Try.prog 56 #[.agg #[.int .i64 f, .int .i64 sf, .int .u64 sh, .int .u64 sl, .int .i64 df, .int .u64 dh, .int .u64 dl, .int .i64 pr, .int .i64 ho, .bool fg, .int .u32 id, .int .i64 of, .bool mo, .slice xa xn xc, .slice da l.length dc]] w (GotS w 6 zSg) := by
  obtain ⟨W1, hW1⟩ : ∃ W1, w.alloc (.cells #[.int .i64 f, .int .i64 sf, .int .u64 sh, .int .u64 sl, .int .i64 df, .int .u64 dh, .int .u64 dl, .int .i64 pr, .int .i64 ho, .bool fg, .int .u32 id, .int .i64 of, .bool mo, .slice xa xn xc, .slice da l.length dc] 64) = W1 := ⟨_, rfl⟩
  obtain ⟨W2, hW2⟩ : ∃ W2, W1.alloc (.cells #[.int .i64 0, .int .i64 0, .int .i64 0, .int .u64 0, .int .u64 0, .int .i64 0, .int .u64 0, .int .u64 0, .int .i64 0, .int .i64 0, .int .i64 0, .int .u32 0, .int .u32 0, .int .i64 0, .int .i64 0, .int .i64 0, .bool false, .int .i64 0, .int .i64 0, .int .i64 0, .int .u64 0, .int .u64 0, .int .i64 0, .int .u64 0, .int .u64 0, .int .i64 0, .int .i64 0, .slice none 0 0] 38) = W2 := ⟨_, rfl⟩
  have b1 : Below w.heap.size w W1 := by rw [← hW1]; exact (Below.refl _ _).alloc (Nat.le_refl _) _
  have b2 : Below w.heap.size w W2 := by rw [← hW2]; exact b1.alloc b1.size _
  have B1' : Blk W1 w.heap.size 64 #[.int .i64 f, .int .i64 sf, .int .u64 sh, .int .u64 sl, .int .i64 df, .int .u64 dh, .int .u64 dl, .int .i64 pr, .int .i64 ho, .bool fg, .int .u32 id, .int .i64 of, .bool mo, .slice xa xn xc, .slice da l.length dc] := by rw [← hW1]; exact blk_new _ _ _
  have B1 : Blk W2 w.heap.size 64 #[.int .i64 f, .int .i64 sf, .int .u64 sh, .int .u64 sl, .int .i64 df, .int .u64 dh, .int .u64 dl, .int .i64 pr, .int .i64 ho, .bool fg, .int .u32 id, .int .i64 of, .bool mo, .slice xa xn xc, .slice da l.length dc] := by rw [← hW2]; exact B1'.alloc _
  have B2 : Blk W2 W1.heap.size 38 #[.int .i64 0, .int .i64 0, .int .i64 0, .int .u64 0, .int .u64 0, .int .i64 0, .int .u64 0, .int .u64 0, .int .i64 0, .int .i64 0, .int .i64 0, .int .u32 0, .int .u32 0, .int .i64 0, .int .i64 0, .int .i64 0, .bool false, .int .i64 0, .int .i64 0, .int .i64 0, .int .u64 0, .int .u64 0, .int .i64 0, .int .u64 0, .int .u64 0, .int .i64 0, .int .i64 0, .slice none 0 0] := by rw [← hW2]; exact blk_new _ _ _
  have g1 : w.heap.size < W1.heap.size := B1'.lt
  clear B1'
  have d0 := B1.cell 0 (.int .i64 f) rfl
  have d14 := B1.cell 14 (.slice da l.length dc) rfl
  have h8' : ¬ (l.length : Int) < 8 := by omega
  have hnn := u16v_bd h.bytes 4
  obtain ⟨nn, hn⟩ := Int.eq_ofNat_of_zero_le hnn.1
  have K1 := segU16_any da dc l 4 W2 (h.below b2) (by decide)
  rw [hn] at K1
  have K1 : Hid _ := K1
  rw [hn] at h5 h6
  have n8 : 8 ≤ nn := by omega
  have nl : nn ≤ l.length := by omega
  have j1 : (0 : Int) ≤ (nn : Int) := by omega
  have j2 : (nn : Int) ≤ (dc : Int) := by omega
  have j3 : nn ≤ dc := by omega
  obtain ⟨b, hb⟩ : ∃ b, l.take nn = b := ⟨_, rfl⟩
  have lb : b.length = nn := by rw [← hb, List.length_take]; omega
  have hnt : (u16v l 4).toNat = nn := by rw [hn]; simp
  rw [hnt, hb] at hz
  have RB : Hid (∀ W, Row W da l → Row W da b) := fun W hW => by rw [← hb]; exact hW.take nn
  obtain ⟨z, hz0⟩ : ∃ z, u16v b 6 = z := ⟨_, rfl⟩
  have K2 : Hid (∀ W, Row W da l → Calls Try.prog 71 #[.slice da nn dc, .int .i64 6] W fun e w' => e = .returned (.int .i64 z) ∧ Below W.heap.size W w') := fun W hW => by
    have := segU16_any da dc b 6 W (RB.out W hW) (by decide)
    rw [hz0, lb] at this
    exact this
  rw [hz0] at hz
  rw [hnt, hb] at hsum
  have KS : Hid (∀ W, Row W da l → Calls Try.prog 67 #[.agg #[.int .i64 f, .int .i64 sf, .int .u64 sh, .int .u64 sl, .int .i64 df, .int .u64 dh, .int .u64 dl, .int .i64 pr, .int .i64 ho, .bool fg, .int .u32 id, .int .i64 of, .bool mo, .slice xa xn xc, .slice da l.length dc], .slice da nn dc] W fun e w' => e = .returned (.bool false) ∧ Below W.heap.size W w') := fun W hW => by
    have := sumsUp_any f sf sh sl df dh dl pr ho fg id of mo xa xn xc da dc l da dc b W (RB.out W hW) hs hd
    rw [lb, hsum] at this
    exact this
  have hz' : (z == 0) = false := by simpa using hz
  clear hz hsum
  have HB : Hid (l.take nn = b ∧ b.length = nn ∧ (u16v l 4).toNat = nn) := ⟨hb, lb, hnt⟩
  clear hb lb hnt hnn hn
  go_enter Try.func56, Try.ntmps56
  go_wp2_with fail
  refine Calls.mono K1.out ?_
  rintro e W3 ⟨rfl, bb⟩
  have b3 : Below w.heap.size w W3 := b2.trans (bb.mono b2.size)
  have B3 := B1.kept bb
  have B3' := B2.kept bb
  have d0 := B3.cell 0 (.int .i64 f) rfl
  have d14 := B3.cell 14 (.slice da l.length dc) rfl
  clear K1 bb B1 B2 b2 hW1 hW2
  go_wp2_with fail
  refine Calls.mono (K2.out _ (h.below b3)) ?_
  rintro e W4 ⟨rfl, bb⟩
  have b4 : Below w.heap.size w W4 := b3.trans (bb.mono b3.size)
  have B4 := B3.kept bb
  have B4' := B3'.kept bb
  clear d0 d14
  have d0 := B4.cell 0 (.int .i64 f) rfl
  clear K2 bb B3 B3' b3
  clear d0
  have d0 := B4.cell 0 (.int .i64 f) rfl
  have d1 := B4.cell 1 (.int .i64 sf) rfl
  have d2 := B4.cell 2 (.int .u64 sh) rfl
  have d3 := B4.cell 3 (.int .u64 sl) rfl
  have d4 := B4.cell 4 (.int .i64 df) rfl
  have d5 := B4.cell 5 (.int .u64 dh) rfl
  have d6 := B4.cell 6 (.int .u64 dl) rfl
  have d7 := B4.cell 7 (.int .i64 pr) rfl
  have d8 := B4.cell 8 (.int .i64 ho) rfl
  have d9 := B4.cell 9 (.bool fg) rfl
  have d10 := B4.cell 10 (.int .u32 id) rfl
  have d11 := B4.cell 11 (.int .i64 of) rfl
  have d12 := B4.cell 12 (.bool mo) rfl
  have d13 := B4.cell 13 (.slice xa xn xc) rfl
  have d14 := B4.cell 14 (.slice da l.length dc) rfl
  go_wp2_with fail
  refine Calls.mono (KS.out _ (h.below b4)) ?_
  rintro e W5 ⟨rfl, bb⟩
  have b5 : Below w.heap.size w W5 := b4.trans (bb.mono b4.size)
  have B5 := B4.kept bb
  have B5' := B4'.kept bb
  clear d0 d1 d2 d3 d4 d5 d6 d7 d8 d9 d10 d11 d12 d13 d14 KS bb B4 B4' b4
  have hbz : (Instr.build 38 #[]).run Try.prog W5 = .ok (.agg #[.int .i64 0, .int .i64 0, .int .i64 0, .int .u64 0, .int .u64 0, .int .i64 0, .int .u64 0, .int .u64 0, .int .i64 0, .int .i64 0, .int .i64 0, .int .u32 0, .int .u32 0, .int .i64 0, .int .i64 0, .int .i64 0, .bool false, .int .i64 0, .int .i64 0, .int .i64 0, .int .u64 0, .int .u64 0, .int .i64 0, .int .u64 0, .int .u64 0, .int .i64 0, .int .i64 0, .slice none 0 0]) W5 := by kernel_rfl
  have Bf := B5'.set #[.int .i64 0, .int .i64 0, .int .i64 0, .int .u64 0, .int .u64 0, .int .i64 0, .int .u64 0, .int .u64 0, .int .i64 0, .int .i64 0, .int .i64 0, .int .u32 0, .int .u32 0, .int .i64 0, .int .i64 0, .int .i64 0, .bool false, .int .i64 0, .int .i64 0, .int .i64 0, .int .u64 0, .int .u64 0, .int .i64 0, .int .u64 0, .int .u64 0, .int .i64 0, .int .i64 0, .slice none 0 0]
  have bf := below_setRow b5 (Nat.le_of_lt g1) #[.int .i64 0, .int .i64 0, .int .i64 0, .int .u64 0, .int .u64 0, .int .i64 0, .int .u64 0, .int .u64 0, .int .i64 0, .int .i64 0, .int .i64 0, .int .u32 0, .int .u32 0, .int .i64 0, .int .i64 0, .int .i64 0, .bool false, .int .i64 0, .int .i64 0, .int .i64 0, .int .u64 0, .int .u64 0, .int .i64 0, .int .u64 0, .int .u64 0, .int .i64 0, .int .i64 0, .slice none 0 0]
  go_wp2_with (first
    | (refine wpList_build _ rfl _ _ rfl _ (by rfl) _ hbz ?_)
    | (refine wpList_store_row rfl _ _ _ rfl W1.heap.size #[.int .i64 0, .int .i64 0, .int .i64 0, .int .u64 0, .int .u64 0, .int .i64 0, .int .u64 0, .int .u64 0, .int .i64 0, .int .i64 0, .int .i64 0, .int .u32 0, .int .u32 0, .int .i64 0, .int .i64 0, .int .i64 0, .bool false, .int .i64 0, .int .i64 0, .int .i64 0, .int .u64 0, .int .u64 0, .int .i64 0, .int .u64 0, .int .u64 0, .int .i64 0, .int .i64 0, .slice none 0 0] (by rfl) (by rfl) _ _ B5' (by kernel_rfl) (by rfl) (by kernel_rfl) ?_))
  exact ret_cell_tmp (k := 2) (j := 3) Try.f56 (by kernel_rfl) Bf Try.underlying38 (by kernel_rfl) (by rfl) (by rfl) rfl ⟨none, 0, rfl, fresh_nil bf⟩

end Go.Proofs.Ytgdpcomcndidcaa

namespace Go.Proofs.Ytgdpcomcndidcaa
open Go.RowKit
set_option linter.unusedVariables false
set_option linter.unusedSimpArgs false

set_option maxRecDepth 100000 in
set_option maxHeartbeats 4000000 in
theorem udp_oka (f sf sh sl df dh dl pr ho : Int) (fg : Bool) (id of : Int) (mo : Bool) (xa : Option Addr) (xn xc : Nat) (da : Option Addr) (dc : Nat) (l : List Int) (w : World) (h : Row w da l) (hnil : da = none → dc = 0) (hc : l.length ≤ dc) (hcm : dc ≤ 9223372036854775807) (hs : Ad.ok ⟨sf, sh, sl⟩) (hd : Ad.ok ⟨df, dh, dl⟩) (h8 : ¬ l.length < 8) (h5 : ¬ u16v l 4 < 8) (h6 : ¬ u16v l 4 > (l.length : Int)) (hz : u16v (l.take (u16v l 4).toNat) 6 = 0) (h66 : ¬ f = 6) :
    Calls Try.prog 56 #[.agg #[.int .i64 f, .int .i64 sf, .int .u64 sh, .int .u64 sl, .int .i64 df, .int .u64 dh, .int .u64 dl, .int .i64 pr, .int .i64 ho, .bool fg, .int .u32 id, .int .i64 of, .bool mo, .slice xa xn xc, .slice da l.length dc]] w (GotS w 0 (udpX f pr ⟨sf, sh, sl⟩ ⟨df, dh, dl⟩ l)) := by
  obtain ⟨W1, hW1⟩ : ∃ W1, w.alloc (.cells #[.int .i64 f, .int .i64 sf, .int .u64 sh, .int .u64 sl, .int .i64 df, .int .u64 dh, .int .u64 dl, .int .i64 pr, .int .i64 ho, .bool fg, .int .u32 id, .int .i64 of, .bool mo, .slice xa xn xc, .slice da l.length dc] 64) = W1 := ⟨_, rfl⟩
  obtain ⟨W2, hW2⟩ : ∃ W2, W1.alloc (.cells #[.int .i64 0, .int .i64 0, .int .i64 0, .int .u64 0, .int .u64 0, .int .i64 0, .int .u64 0, .int .u64 0, .int .i64 0, .int .i64 0, .int .i64 0, .int .u32 0, .int .u32 0, .int .i64 0, .int .i64 0, .int .i64 0, .bool false, .int .i64 0, .int .i64 0, .int .i64 0, .int .u64 0, .int .u64 0, .int .i64 0, .int .u64 0, .int .u64 0, .int .i64 0, .int .i64 0, .slice none 0 0] 38) = W2 := ⟨_, rfl⟩
  have b1 : Below w.heap.size w W1 := by rw [← hW1]; exact (Below.refl _ _).alloc (Nat.le_refl _) _
  have b2 : Below w.heap.size w W2 := by rw [← hW2]; exact b1.alloc b1.size _
  have B1' : Blk W1 w.heap.size 64 #[.int .i64 f, .int .i64 sf, .int .u64 sh, .int .u64 sl, .int .i64 df, .int .u64 dh, .int .u64 dl, .int .i64 pr, .int .i64 ho, .bool fg, .int .u32 id, .int .i64 of, .bool mo, .slice xa xn xc, .slice da l.length dc] := by rw [← hW1]; exact blk_new _ _ _
  have B1 : Blk W2 w.heap.size 64 #[.int .i64 f, .int .i64 sf, .int .u64 sh, .int .u64 sl, .int .i64 df, .int .u64 dh, .int .u64 dl, .int .i64 pr, .int .i64 ho, .bool fg, .int .u32 id, .int .i64 of, .bool mo, .slice xa xn xc, .slice da l.length dc] := by rw [← hW2]; exact B1'.alloc _
  have B2 : Blk W2 W1.heap.size 38 #[.int .i64 0, .int .i64 0, .int .i64 0, .int .u64 0, .int .u64 0, .int .i64 0, .int .u64 0, .int .u64 0, .int .i64 0, .int .i64 0, .int .i64 0, .int .u32 0, .int .u32 0, .int .i64 0, .int .i64 0, .int .i64 0, .bool false, .int .i64 0, .int .i64 0, .int .i64 0, .int .u64 0, .int .u64 0, .int .i64 0, .int .u64 0, .int .u64 0, .int .i64 0, .int .i64 0, .slice none 0 0] := by rw [← hW2]; exact blk_new _ _ _
  have g1 : w.heap.size < W1.heap.size := B1'.lt
  clear B1'
  have d0 := B1.cell 0 (.int .i64 f) rfl
  have d14 := B1.cell 14 (.slice da l.length dc) rfl
  have h8' : ¬ (l.length : Int) < 8 := by omega
  have hnn := u16v_bd h.bytes 4
  obtain ⟨nn, hn⟩ := Int.eq_ofNat_of_zero_le hnn.1
  have K1 := segU16_any da dc l 4 W2 (h.below b2) (by decide)
  rw [hn] at K1
  have K1 : Hid _ := K1
  rw [hn] at h5 h6
  have n8 : 8 ≤ nn := by omega
  have nl : nn ≤ l.length := by omega
  have j1 : (0 : Int) ≤ (nn : Int) := by omega
  have j2 : (nn : Int) ≤ (dc : Int) := by omega
  have j3 : nn ≤ dc := by omega
  obtain ⟨b, hb⟩ : ∃ b, l.take nn = b := ⟨_, rfl⟩
  have lb : b.length = nn := by rw [← hb, List.length_take]; omega
  have hnt : (u16v l 4).toNat = nn := by rw [hn]; simp
  rw [hnt, hb] at hz
  have RB : Hid (∀ W, Row W da l → Row W da b) := fun W hW => by rw [← hb]; exact hW.take nn
  obtain ⟨z, hz0⟩ : ∃ z, u16v b 6 = z := ⟨_, rfl⟩
  have K2 : Hid (∀ W, Row W da l → Calls Try.prog 71 #[.slice da nn dc, .int .i64 6] W fun e w' => e = .returned (.int .i64 z) ∧ Below W.heap.size W w') := fun W hW => by
    have := segU16_any da dc b 6 W (RB.out W hW) (by decide)
    rw [hz0, lb] at this
    exact this
  obtain ⟨a3, ha3⟩ : ∃ a3, (if dc = 8 then da else da.map (fun x => x.add 8)) = a3 := ⟨_, rfl⟩
  have H3 : Hid ((if dc = 8 then da else Option.map (fun x => { block := x.block, off := x.off + 8 }) da) = a3) := by
    obtain ⟨bk, off, e, _⟩ := h.cells (by omega)
    have : (if dc = 8 then da else Option.map (fun x => { block := x.block, off := x.off + 8 }) da) = a3 := by
      rw [← ha3, e]
      simp [Go.WideShapes.add_plain]
    exact this
  obtain ⟨D, hD⟩ : ∃ D, b.drop 8 = D := ⟨_, rfl⟩
  have lD : D.length = nn - 8 := by rw [← hD, List.length_drop, lb]
  have KC : Hid (∀ W, Row W da l → Calls Try.prog 72 #[.slice a3 (nn - 8) (dc - 8)] W fun e w' => ∃ a' c', e = .returned (.slice a' D.length c') ∧ Fresh W w' a' c' D) := fun W hW => by
    have hr := (RB.out W hW).drop dc 8 (by omega)
    rw [ha3, hD] at hr
    have := clone_any a3 (dc - 8) D W hr (fun e => by
      rw [e] at ha3
      split at ha3
      · omega
      · have : da = none := by simpa using ha3
        have := hnil this
        omega)
    rw [lD] at this ⊢
    exact this
  obtain ⟨V, hV⟩ : ∃ V, portsOf f pr l = V := ⟨_, rfl⟩
  have KW : Hid (∀ W, Row W da l → Calls Try.prog 70 #[.agg #[.int .i64 f, .int .i64 sf, .int .u64 sh, .int .u64 sl, .int .i64 df, .int .u64 dh, .int .u64 dl, .int .i64 pr, .int .i64 ho, .bool fg, .int .u32 id, .int .i64 of, .bool mo, .slice xa xn xc, .slice da l.length dc]] W fun e w' => e = .returned (.agg #[.int .i64 f, .int .i64 pr, .int .i64 sf, .int .u64 sh, .int .u64 sl, .int .i64 df, .int .u64 dh, .int .u64 dl, .int .i64 V.1, .int .i64 V.2]) ∧ Below W.heap.size W w') := fun W hW => by
    have := way_any f sf sh sl df dh dl pr ho fg id of mo xa xn xc da dc l W hW (by omega)
    rw [hV] at this
    exact this
  have e : udpX f pr ⟨sf, sh, sl⟩ ⟨df, dh, dl⟩ l = ⟨⟨f, pr, ⟨sf, sh, sl⟩, ⟨df, dh, dl⟩, V.1, V.2⟩, 0, 0, 0, 0, 0, 0, false, zTp, D⟩ := by
    unfold udpX endT
    rw [hV, hnt, hb, hD]
  rw [e]
  have HD : Hid (D.length = nn - 8) := lD
  have j8 : (8 : Int) ≤ (nn : Int) := by omega
  have j9 : 8 ≤ nn := by omega
  clear e hV hD lD ha3
  rw [hz0] at hz
  subst hz
  have HB : Hid (l.take nn = b ∧ b.length = nn ∧ (u16v l 4).toNat = nn) := ⟨hb, lb, hnt⟩
  clear hb lb hnt hnn hn
  have f6 : (f == 6) = false := by simpa using h66
  clear h66
  go_enter Try.func56, Try.ntmps56
  go_wp2_with fail
  refine Calls.mono K1.out ?_
  rintro e W3 ⟨rfl, bb⟩
  have b3 : Below w.heap.size w W3 := b2.trans (bb.mono b2.size)
  have B3 := B1.kept bb
  have B3' := B2.kept bb
  have d0 := B3.cell 0 (.int .i64 f) rfl
  have d14 := B3.cell 14 (.slice da l.length dc) rfl
  clear K1 bb B1 B2 b2 hW1 hW2
  go_wp2_with fail
  refine Calls.mono (K2.out _ (h.below b3)) ?_
  rintro e W4 ⟨rfl, bb⟩
  have b4 : Below w.heap.size w W4 := b3.trans (bb.mono b3.size)
  have B4 := B3.kept bb
  have B4' := B3'.kept bb
  clear d0 d14
  have d0 := B4.cell 0 (.int .i64 f) rfl
  clear K2 bb B3 B3' b3
  go_wp2_with fail
  refine wp_region_noPanic ?_
  refine wp_region_held_drew (S := fun w' => Blk w' w.heap.size 64 #[.int .i64 f, .int .i64 sf, .int .u64 sh, .int .u64 sl, .int .i64 df, .int .u64 dh, .int .u64 dl, .int .i64 pr, .int .i64 ho, .bool fg, .int .u32 id, .int .i64 of, .bool mo, .slice xa xn xc, .slice da l.length dc]) (by kernel_rfl) (by exact B4.drew) (fun hHeld => ?_)
  refine wpAnyH_take (i := 0) (oi := { dst := some 49, op := Op.load 64 (.tmp 1), type := 64, pos := "parse.go:70", after := #[], guard := none }) (v := (.agg #[.int .i64 f, .int .i64 sf, .int .u64 sh, .int .u64 sl, .int .i64 df, .int .u64 dh, .int .u64 dl, .int .i64 pr, .int .i64 ho, .bool fg, .int .u32 id, .int .i64 of, .bool mo, .slice xa xn xc, .slice da l.length dc])) rfl (by kernel_rfl) (by kernel_rfl) (by kernel_rfl) (fun _ _ _ h => h) (yieldsIf_blk rfl _ _ rfl w.heap.size (by rfl) _ (fun _ hSw => hSw) Try.underlying64 (by kernel_rfl)) hHeld ?_
  try simp only [Act.put, List.setIfInBounds_toArray, List.set_cons_zero, List.set_cons_succ]
  refine wpAnyH_take (i := 2) (oi := { dst := some 51, op := Op.move (.tmp 5), type := 28, pos := "parse.go:70", after := #[], guard := none }) (v := (.slice da nn dc)) rfl (by kernel_rfl) (by kernel_rfl) (by kernel_rfl) (fun _ _ _ h => h) (Or.inl ⟨by rfl, ?_⟩) hHeld ?_
  · intro w9 hSw
    try dsimp only at hSw
    go_simp
  try simp only [Act.put, List.setIfInBounds_toArray, List.set_cons_zero, List.set_cons_succ]
  refine wpAnyH_take (i := 3) (oi := { dst := some 52, op := Op.slice 28 (.tmp 51) (some (.const (.int .i64 8))) none none, type := 28, pos := "parse.go:70", after := #[{ on := 2, ground := Ground.data }], guard := none }) (v := (.slice a3 (nn - 8) (dc - 8))) rfl (by kernel_rfl) (by kernel_rfl) (by kernel_rfl) (fun _ _ _ h => h) (Or.inl ⟨by rfl, ?_⟩) hHeld ?_
  · intro w9 hSw
    try dsimp only at hSw
    go_simp
    exact H3.out
  try simp only [Act.put, List.setIfInBounds_toArray, List.set_cons_zero, List.set_cons_succ]
  refine wpAnyH_ready (rs := [1]) (by kernel_rfl) (by simp) ?_
  refine AllReadyH.cons (o := { dst := some 50, op := Op.call { callee := Callee.value (.func 70), args := #[.tmp 49], argTypes := #[64] }, type := 26, pos := "parse.go:70", after := #[{ on := 0, ground := Ground.data }], guard := none }) rfl (fun K hK => ?_) AllReadyH.nil
  go_simp
  refine Calls.mono (KW.out _ (h.below b4.drew)) ?_
  rintro e W6 ⟨rfl, bb⟩
  have B6 := B4.drew.kept bb
  have B6' := B4'.drew.kept bb
  have b6 : Below w.heap.size w W6 := b4.drew.trans (bb.mono b4.drew.size)
  refine hK.out _ _ ?_ (fun hHeld => ?_)
  · exact B6
  clear hK K
  try simp only [Act.put, List.setIfInBounds_toArray, List.set_cons_zero, List.set_cons_succ]
  refine wpAnyH_ready (rs := [4]) (by kernel_rfl) (by simp) ?_
  refine AllReadyH.cons (o := { dst := some 53, op := Op.call { callee := Callee.value (.func 72), args := #[.tmp 52], argTypes := #[28] }, type := 28, pos := "parse.go:70", after := #[{ on := 3, ground := Ground.data }, { on := 1, ground := Ground.chain }], guard := none }) rfl (fun K hK => ?_) AllReadyH.nil
  go_simp
  refine Calls.mono (KC.out _ (h.below b6)) ?_
  rintro e W7 ⟨a7, c7, rfl, f7⟩
  have B7 := B6.kept f7.below
  have B7' := B6'.kept f7.below
  have b7 : Below w.heap.size w W7 := b6.trans (f7.below.mono b6.size)
  refine hK.out _ _ ?_ (fun hHeld => ?_)
  · exact B7
  clear hK K
  try simp only [Act.put, List.setIfInBounds_toArray, List.set_cons_zero, List.set_cons_succ]
  refine wpAnyH_take (i := 5) (oi := { dst := some 54, op := Op.build 38 #[(0, .tmp 50), (9, .tmp 53)], type := 38, pos := "parse.go:70", after := #[{ on := 1, ground := Ground.data }, { on := 4, ground := Ground.data }], guard := none }) (v := (.agg #[.int .i64 f, .int .i64 pr, .int .i64 sf, .int .u64 sh, .int .u64 sl, .int .i64 df, .int .u64 dh, .int .u64 dl, .int .i64 V.1, .int .i64 V.2, .int .i64 0, .int .u32 0, .int .u32 0, .int .i64 0, .int .i64 0, .int .i64 0, .bool false, .int .i64 0, .int .i64 0, .int .i64 0, .int .u64 0, .int .u64 0, .int .i64 0, .int .u64 0, .int .u64 0, .int .i64 0, .int .i64 0, .slice a7 D.length c7])) rfl (by kernel_rfl) (by kernel_rfl) (by kernel_rfl) (fun _ _ _ h => h) (yieldsIf_build rfl _ _ rfl #[(0, .agg #[.int .i64 f, .int .i64 pr, .int .i64 sf, .int .u64 sh, .int .u64 sl, .int .i64 df, .int .u64 dh, .int .u64 dl, .int .i64 V.1, .int .i64 V.2]), (9, .slice a7 D.length c7)] (by kernel_rfl) _ (fun w9 => by kernel_rfl)) hHeld ?_
  try simp only [Act.put, List.setIfInBounds_toArray, List.set_cons_zero, List.set_cons_succ]
  refine wpAnyH_ready (rs := [6]) (by kernel_rfl) (by simp) ?_
  refine AllReadyH.cons (o := { dst := none, op := Op.store 38 (.tmp 2) (.tmp 54), type := 0, pos := "parse.go:70", after := #[{ on := 5, ground := Ground.data }, { on := 4, ground := Ground.chain }, { on := 0, ground := Ground.phase }, { on := 1, ground := Ground.phase }, { on := 2, ground := Ground.phase }, { on := 3, ground := Ground.phase }, { on := 4, ground := Ground.phase }, { on := 5, ground := Ground.phase }], guard := none }) rfl (fun K hK => ?_) AllReadyH.nil
  refine step_store_blk rfl _ _ _ rfl W1.heap.size #[.int .i64 f, .int .i64 pr, .int .i64 sf, .int .u64 sh, .int .u64 sl, .int .i64 df, .int .u64 dh, .int .u64 dl, .int .i64 V.1, .int .i64 V.2, .int .i64 0, .int .u32 0, .int .u32 0, .int .i64 0, .int .i64 0, .int .i64 0, .bool false, .int .i64 0, .int .i64 0, .int .i64 0, .int .u64 0, .int .u64 0, .int .i64 0, .int .u64 0, .int .u64 0, .int .i64 0, .int .i64 0, .slice a7 D.length c7] _ (by kernel_rfl) (by kernel_rfl) B7' (by kernel_rfl) (by rfl) (by kernel_rfl) ?_
  refine hK.out _ _ ?_ (fun hHeld => ?_)
  · exact B7.other (by omega) _
  clear hK K
  try simp only [Act.put, List.setIfInBounds_toArray, List.set_cons_zero, List.set_cons_succ]
  refine wpAnyH_take (i := 7) (oi := { dst := some 3, op := Op.assign (.const (.int .i64 0)), type := 39, pos := "parse.go:70", after := #[{ on := 6, ground := Ground.chain }, { on := 0, ground := Ground.phase }, { on := 1, ground := Ground.phase }, { on := 2, ground := Ground.phase }, { on := 3, ground := Ground.phase }, { on := 4, ground := Ground.phase }, { on := 5, ground := Ground.phase }, { on := 6, ground := Ground.phase }], guard := none }) (v := (.int .i64 0)) rfl (by kernel_rfl) (by kernel_rfl) (by kernel_rfl) (fun _ _ _ h => h) (Or.inl ⟨by rfl, ?_⟩) hHeld ?_
  · intro w9 hSw
    try dsimp only at hSw
    go_simp
  try simp only [Act.put, List.setIfInBounds_toArray, List.set_cons_zero, List.set_cons_succ]
  refine wpAnyH_done (by kernel_rfl) ?_ _
  refine NoPanic.normal ?_
  have Bf := B7'.set #[.int .i64 f, .int .i64 pr, .int .i64 sf, .int .u64 sh, .int .u64 sl, .int .i64 df, .int .u64 dh, .int .u64 dl, .int .i64 V.1, .int .i64 V.2, .int .i64 0, .int .u32 0, .int .u32 0, .int .i64 0, .int .i64 0, .int .i64 0, .bool false, .int .i64 0, .int .i64 0, .int .i64 0, .int .u64 0, .int .u64 0, .int .i64 0, .int .u64 0, .int .u64 0, .int .i64 0, .int .i64 0, .slice a7 D.length c7]
  have bf := below_setRow b7 (Nat.le_of_lt g1) #[.int .i64 f, .int .i64 pr, .int .i64 sf, .int .u64 sh, .int .u64 sl, .int .i64 df, .int .u64 dh, .int .u64 dl, .int .i64 V.1, .int .i64 V.2, .int .i64 0, .int .u32 0, .int .u32 0, .int .i64 0, .int .i64 0, .int .i64 0, .bool false, .int .i64 0, .int .i64 0, .int .i64 0, .int .u64 0, .int .u64 0, .int .i64 0, .int .u64 0, .int .u64 0, .int .i64 0, .int .i64 0, .slice a7 D.length c7]
  have oo := (owns_le (B' := W1.heap.size + 1) (by have := B6'.lt; omega) f7.owns).row_other (Nat.lt_succ_self _) #[.int .i64 f, .int .i64 pr, .int .i64 sf, .int .u64 sh, .int .u64 sl, .int .i64 df, .int .u64 dh, .int .u64 dl, .int .i64 V.1, .int .i64 V.2, .int .i64 0, .int .u32 0, .int .u32 0, .int .i64 0, .int .i64 0, .int .i64 0, .bool false, .int .i64 0, .int .i64 0, .int .i64 0, .int .u64 0, .int .u64 0, .int .i64 0, .int .u64 0, .int .u64 0, .int .i64 0, .int .i64 0, .slice a7 D.length c7]
  go_wp2_with fail
  refine ret_cell_tmp (k := 2) (j := 3) Try.f56 (by kernel_rfl) Bf Try.underlying38 (by kernel_rfl) (by rfl) (by rfl) rfl ?_
  exact ⟨a7, c7, rfl, owns_le (by omega) oo, f7.room, f7.nil, oo.row f7.row.small f7.row.bytes, bf⟩

set_option maxRecDepth 100000 in
set_option maxHeartbeats 4000000 in
theorem udp_okb (f sf sh sl df dh dl pr ho : Int) (fg : Bool) (id of : Int) (mo : Bool) (xa : Option Addr) (xn xc : Nat) (da : Option Addr) (dc : Nat) (l : List Int) (w : World) (h : Row w da l) (hnil : da = none → dc = 0) (hc : l.length ≤ dc) (hcm : dc ≤ 9223372036854775807) (hs : Ad.ok ⟨sf, sh, sl⟩) (hd : Ad.ok ⟨df, dh, dl⟩) (h8 : ¬ l.length < 8) (h5 : ¬ u16v l 4 < 8) (h6 : ¬ u16v l 4 > (l.length : Int)) (hz : ¬ u16v (l.take (u16v l 4).toNat) 6 = 0) (hsum : sumsB ⟨sf, sh, sl⟩ ⟨df, dh, dl⟩ pr (l.take (u16v l 4).toNat) = true) :
    Calls Try.prog 56 #[.agg #[.int .i64 f, .int .i64 sf, .int .u64 sh, .int .u64 sl, .int .i64 df, .int .u64 dh, .int .u64 dl, .int .i64 pr, .int .i64 ho, .bool fg, .int .u32 id, .int .i64 of, .bool mo, .slice xa xn xc, .slice da l.length dc]] w (GotS w 0 (udpX f pr ⟨sf, sh, sl⟩ ⟨df, dh, dl⟩ l)) := by
  obtain ⟨W1, hW1⟩ : ∃ W1, w.alloc (.cells #[.int .i64 f, .int .i64 sf, .int .u64 sh, .int .u64 sl, .int .i64 df, .int .u64 dh, .int .u64 dl, .int .i64 pr, .int .i64 ho, .bool fg, .int .u32 id, .int .i64 of, .bool mo, .slice xa xn xc, .slice da l.length dc] 64) = W1 := ⟨_, rfl⟩
  obtain ⟨W2, hW2⟩ : ∃ W2, W1.alloc (.cells #[.int .i64 0, .int .i64 0, .int .i64 0, .int .u64 0, .int .u64 0, .int .i64 0, .int .u64 0, .int .u64 0, .int .i64 0, .int .i64 0, .int .i64 0, .int .u32 0, .int .u32 0, .int .i64 0, .int .i64 0, .int .i64 0, .bool false, .int .i64 0, .int .i64 0, .int .i64 0, .int .u64 0, .int .u64 0, .int .i64 0, .int .u64 0, .int .u64 0, .int .i64 0, .int .i64 0, .slice none 0 0] 38) = W2 := ⟨_, rfl⟩
  have b1 : Below w.heap.size w W1 := by rw [← hW1]; exact (Below.refl _ _).alloc (Nat.le_refl _) _
  have b2 : Below w.heap.size w W2 := by rw [← hW2]; exact b1.alloc b1.size _
  have B1' : Blk W1 w.heap.size 64 #[.int .i64 f, .int .i64 sf, .int .u64 sh, .int .u64 sl, .int .i64 df, .int .u64 dh, .int .u64 dl, .int .i64 pr, .int .i64 ho, .bool fg, .int .u32 id, .int .i64 of, .bool mo, .slice xa xn xc, .slice da l.length dc] := by rw [← hW1]; exact blk_new _ _ _
  have B1 : Blk W2 w.heap.size 64 #[.int .i64 f, .int .i64 sf, .int .u64 sh, .int .u64 sl, .int .i64 df, .int .u64 dh, .int .u64 dl, .int .i64 pr, .int .i64 ho, .bool fg, .int .u32 id, .int .i64 of, .bool mo, .slice xa xn xc, .slice da l.length dc] := by rw [← hW2]; exact B1'.alloc _
  have B2 : Blk W2 W1.heap.size 38 #[.int .i64 0, .int .i64 0, .int .i64 0, .int .u64 0, .int .u64 0, .int .i64 0, .int .u64 0, .int .u64 0, .int .i64 0, .int .i64 0, .int .i64 0, .int .u32 0, .int .u32 0, .int .i64 0, .int .i64 0, .int .i64 0, .bool false, .int .i64 0, .int .i64 0, .int .i64 0, .int .u64 0, .int .u64 0, .int .i64 0, .int .u64 0, .int .u64 0, .int .i64 0, .int .i64 0, .slice none 0 0] := by rw [← hW2]; exact blk_new _ _ _
  have g1 : w.heap.size < W1.heap.size := B1'.lt
  clear B1'
  have d0 := B1.cell 0 (.int .i64 f) rfl
  have d14 := B1.cell 14 (.slice da l.length dc) rfl
  have h8' : ¬ (l.length : Int) < 8 := by omega
  have hnn := u16v_bd h.bytes 4
  obtain ⟨nn, hn⟩ := Int.eq_ofNat_of_zero_le hnn.1
  have K1 := segU16_any da dc l 4 W2 (h.below b2) (by decide)
  rw [hn] at K1
  have K1 : Hid _ := K1
  rw [hn] at h5 h6
  have n8 : 8 ≤ nn := by omega
  have nl : nn ≤ l.length := by omega
  have j1 : (0 : Int) ≤ (nn : Int) := by omega
  have j2 : (nn : Int) ≤ (dc : Int) := by omega
  have j3 : nn ≤ dc := by omega
  obtain ⟨b, hb⟩ : ∃ b, l.take nn = b := ⟨_, rfl⟩
  have lb : b.length = nn := by rw [← hb, List.length_take]; omega
  have hnt : (u16v l 4).toNat = nn := by rw [hn]; simp
  rw [hnt, hb] at hz
  have RB : Hid (∀ W, Row W da l → Row W da b) := fun W hW => by rw [← hb]; exact hW.take nn
  obtain ⟨z, hz0⟩ : ∃ z, u16v b 6 = z := ⟨_, rfl⟩
  have K2 : Hid (∀ W, Row W da l → Calls Try.prog 71 #[.slice da nn dc, .int .i64 6] W fun e w' => e = .returned (.int .i64 z) ∧ Below W.heap.size W w') := fun W hW => by
    have := segU16_any da dc b 6 W (RB.out W hW) (by decide)
    rw [hz0, lb] at this
    exact this
  obtain ⟨a3, ha3⟩ : ∃ a3, (if dc = 8 then da else da.map (fun x => x.add 8)) = a3 := ⟨_, rfl⟩
  have H3 : Hid ((if dc = 8 then da else Option.map (fun x => { block := x.block, off := x.off + 8 }) da) = a3) := by
    obtain ⟨bk, off, e, _⟩ := h.cells (by omega)
    have : (if dc = 8 then da else Option.map (fun x => { block := x.block, off := x.off + 8 }) da) = a3 := by
      rw [← ha3, e]
      simp [Go.WideShapes.add_plain]
    exact this
  obtain ⟨D, hD⟩ : ∃ D, b.drop 8 = D := ⟨_, rfl⟩
  have lD : D.length = nn - 8 := by rw [← hD, List.length_drop, lb]
  have KC : Hid (∀ W, Row W da l → Calls Try.prog 72 #[.slice a3 (nn - 8) (dc - 8)] W fun e w' => ∃ a' c', e = .returned (.slice a' D.length c') ∧ Fresh W w' a' c' D) := fun W hW => by
    have hr := (RB.out W hW).drop dc 8 (by omega)
    rw [ha3, hD] at hr
    have := clone_any a3 (dc - 8) D W hr (fun e => by
      rw [e] at ha3
      split at ha3
      · omega
      · have : da = none := by simpa using ha3
        have := hnil this
        omega)
    rw [lD] at this ⊢
    exact this
  obtain ⟨V, hV⟩ : ∃ V, portsOf f pr l = V := ⟨_, rfl⟩
  have KW : Hid (∀ W, Row W da l → Calls Try.prog 70 #[.agg #[.int .i64 f, .int .i64 sf, .int .u64 sh, .int .u64 sl, .int .i64 df, .int .u64 dh, .int .u64 dl, .int .i64 pr, .int .i64 ho, .bool fg, .int .u32 id, .int .i64 of, .bool mo, .slice xa xn xc, .slice da l.length dc]] W fun e w' => e = .returned (.agg #[.int .i64 f, .int .i64 pr, .int .i64 sf, .int .u64 sh, .int .u64 sl, .int .i64 df, .int .u64 dh, .int .u64 dl, .int .i64 V.1, .int .i64 V.2]) ∧ Below W.heap.size W w') := fun W hW => by
    have := way_any f sf sh sl df dh dl pr ho fg id of mo xa xn xc da dc l W hW (by omega)
    rw [hV] at this
    exact this
  have e : udpX f pr ⟨sf, sh, sl⟩ ⟨df, dh, dl⟩ l = ⟨⟨f, pr, ⟨sf, sh, sl⟩, ⟨df, dh, dl⟩, V.1, V.2⟩, 0, 0, 0, 0, 0, 0, false, zTp, D⟩ := by
    unfold udpX endT
    rw [hV, hnt, hb, hD]
  rw [e]
  have HD : Hid (D.length = nn - 8) := lD
  have j8 : (8 : Int) ≤ (nn : Int) := by omega
  have j9 : 8 ≤ nn := by omega
  clear e hV hD lD ha3
  rw [hz0] at hz
  rw [hnt, hb] at hsum
  have KS : Hid (∀ W, Row W da l → Calls Try.prog 67 #[.agg #[.int .i64 f, .int .i64 sf, .int .u64 sh, .int .u64 sl, .int .i64 df, .int .u64 dh, .int .u64 dl, .int .i64 pr, .int .i64 ho, .bool fg, .int .u32 id, .int .i64 of, .bool mo, .slice xa xn xc, .slice da l.length dc], .slice da nn dc] W fun e w' => e = .returned (.bool true) ∧ Below W.heap.size W w') := fun W hW => by
    have := sumsUp_any f sf sh sl df dh dl pr ho fg id of mo xa xn xc da dc l da dc b W (RB.out W hW) hs hd
    rw [lb, hsum] at this
    exact this
  have hz' : (z == 0) = false := by simpa using hz
  clear hz hsum
  have HB : Hid (l.take nn = b ∧ b.length = nn ∧ (u16v l 4).toNat = nn) := ⟨hb, lb, hnt⟩
  clear hb lb hnt hnn hn
  go_enter Try.func56, Try.ntmps56
  go_wp2_with fail
  refine Calls.mono K1.out ?_
  rintro e W3 ⟨rfl, bb⟩
  have b3 : Below w.heap.size w W3 := b2.trans (bb.mono b2.size)
  have B3 := B1.kept bb
  have B3' := B2.kept bb
  have d0 := B3.cell 0 (.int .i64 f) rfl
  have d14 := B3.cell 14 (.slice da l.length dc) rfl
  clear K1 bb B1 B2 b2 hW1 hW2
  go_wp2_with fail
  refine Calls.mono (K2.out _ (h.below b3)) ?_
  rintro e W4 ⟨rfl, bb⟩
  have b4 : Below w.heap.size w W4 := b3.trans (bb.mono b3.size)
  have B4 := B3.kept bb
  have B4' := B3'.kept bb
  clear d0 d14
  have d0 := B4.cell 0 (.int .i64 f) rfl
  clear K2 bb B3 B3' b3
  clear d0
  have d0 := B4.cell 0 (.int .i64 f) rfl
  have d1 := B4.cell 1 (.int .i64 sf) rfl
  have d2 := B4.cell 2 (.int .u64 sh) rfl
  have d3 := B4.cell 3 (.int .u64 sl) rfl
  have d4 := B4.cell 4 (.int .i64 df) rfl
  have d5 := B4.cell 5 (.int .u64 dh) rfl
  have d6 := B4.cell 6 (.int .u64 dl) rfl
  have d7 := B4.cell 7 (.int .i64 pr) rfl
  have d8 := B4.cell 8 (.int .i64 ho) rfl
  have d9 := B4.cell 9 (.bool fg) rfl
  have d10 := B4.cell 10 (.int .u32 id) rfl
  have d11 := B4.cell 11 (.int .i64 of) rfl
  have d12 := B4.cell 12 (.bool mo) rfl
  have d13 := B4.cell 13 (.slice xa xn xc) rfl
  have d14 := B4.cell 14 (.slice da l.length dc) rfl
  go_wp2_with fail
  refine Calls.mono (KS.out _ (h.below b4)) ?_
  rintro e W5 ⟨rfl, bb⟩
  have b5 : Below w.heap.size w W5 := b4.trans (bb.mono b4.size)
  have B5 := B4.kept bb
  have B5' := B4'.kept bb
  clear d0 d1 d2 d3 d4 d5 d6 d7 d8 d9 d10 d11 d12 d13 d14 KS bb B4 B4' b4
  go_wp2_with fail
  refine wp_region_noPanic ?_
  refine wp_region_held_drew (S := fun w' => Blk w' w.heap.size 64 #[.int .i64 f, .int .i64 sf, .int .u64 sh, .int .u64 sl, .int .i64 df, .int .u64 dh, .int .u64 dl, .int .i64 pr, .int .i64 ho, .bool fg, .int .u32 id, .int .i64 of, .bool mo, .slice xa xn xc, .slice da l.length dc]) (by kernel_rfl) (by exact B5.drew) (fun hHeld => ?_)
  refine wpAnyH_take (i := 0) (oi := { dst := some 49, op := Op.load 64 (.tmp 1), type := 64, pos := "parse.go:70", after := #[], guard := none }) (v := (.agg #[.int .i64 f, .int .i64 sf, .int .u64 sh, .int .u64 sl, .int .i64 df, .int .u64 dh, .int .u64 dl, .int .i64 pr, .int .i64 ho, .bool fg, .int .u32 id, .int .i64 of, .bool mo, .slice xa xn xc, .slice da l.length dc])) rfl (by kernel_rfl) (by kernel_rfl) (by kernel_rfl) (fun _ _ _ h => h) (yieldsIf_blk rfl _ _ rfl w.heap.size (by rfl) _ (fun _ hSw => hSw) Try.underlying64 (by kernel_rfl)) hHeld ?_
  try simp only [Act.put, List.setIfInBounds_toArray, List.set_cons_zero, List.set_cons_succ]
  refine wpAnyH_take (i := 2) (oi := { dst := some 51, op := Op.move (.tmp 5), type := 28, pos := "parse.go:70", after := #[], guard := none }) (v := (.slice da nn dc)) rfl (by kernel_rfl) (by kernel_rfl) (by kernel_rfl) (fun _ _ _ h => h) (Or.inl ⟨by rfl, ?_⟩) hHeld ?_
  · intro w9 hSw
    try dsimp only at hSw
    go_simp
  try simp only [Act.put, List.setIfInBounds_toArray, List.set_cons_zero, List.set_cons_succ]
  refine wpAnyH_take (i := 3) (oi := { dst := some 52, op := Op.slice 28 (.tmp 51) (some (.const (.int .i64 8))) none none, type := 28, pos := "parse.go:70", after := #[{ on := 2, ground := Ground.data }], guard := none }) (v := (.slice a3 (nn - 8) (dc - 8))) rfl (by kernel_rfl) (by kernel_rfl) (by kernel_rfl) (fun _ _ _ h => h) (Or.inl ⟨by rfl, ?_⟩) hHeld ?_
  · intro w9 hSw
    try dsimp only at hSw
    go_simp
    exact H3.out
  try simp only [Act.put, List.setIfInBounds_toArray, List.set_cons_zero, List.set_cons_succ]
  refine wpAnyH_ready (rs := [1]) (by kernel_rfl) (by simp) ?_
  refine AllReadyH.cons (o := { dst := some 50, op := Op.call { callee := Callee.value (.func 70), args := #[.tmp 49], argTypes := #[64] }, type := 26, pos := "parse.go:70", after := #[{ on := 0, ground := Ground.data }], guard := none }) rfl (fun K hK => ?_) AllReadyH.nil
  go_simp
  refine Calls.mono (KW.out _ (h.below b5.drew)) ?_
  rintro e W6 ⟨rfl, bb⟩
  have B6 := B5.drew.kept bb
  have B6' := B5'.drew.kept bb
  have b6 : Below w.heap.size w W6 := b5.drew.trans (bb.mono b5.drew.size)
  refine hK.out _ _ ?_ (fun hHeld => ?_)
  · exact B6
  clear hK K
  try simp only [Act.put, List.setIfInBounds_toArray, List.set_cons_zero, List.set_cons_succ]
  refine wpAnyH_ready (rs := [4]) (by kernel_rfl) (by simp) ?_
  refine AllReadyH.cons (o := { dst := some 53, op := Op.call { callee := Callee.value (.func 72), args := #[.tmp 52], argTypes := #[28] }, type := 28, pos := "parse.go:70", after := #[{ on := 3, ground := Ground.data }, { on := 1, ground := Ground.chain }], guard := none }) rfl (fun K hK => ?_) AllReadyH.nil
  go_simp
  refine Calls.mono (KC.out _ (h.below b6)) ?_
  rintro e W7 ⟨a7, c7, rfl, f7⟩
  have B7 := B6.kept f7.below
  have B7' := B6'.kept f7.below
  have b7 : Below w.heap.size w W7 := b6.trans (f7.below.mono b6.size)
  refine hK.out _ _ ?_ (fun hHeld => ?_)
  · exact B7
  clear hK K
  try simp only [Act.put, List.setIfInBounds_toArray, List.set_cons_zero, List.set_cons_succ]
  refine wpAnyH_take (i := 5) (oi := { dst := some 54, op := Op.build 38 #[(0, .tmp 50), (9, .tmp 53)], type := 38, pos := "parse.go:70", after := #[{ on := 1, ground := Ground.data }, { on := 4, ground := Ground.data }], guard := none }) (v := (.agg #[.int .i64 f, .int .i64 pr, .int .i64 sf, .int .u64 sh, .int .u64 sl, .int .i64 df, .int .u64 dh, .int .u64 dl, .int .i64 V.1, .int .i64 V.2, .int .i64 0, .int .u32 0, .int .u32 0, .int .i64 0, .int .i64 0, .int .i64 0, .bool false, .int .i64 0, .int .i64 0, .int .i64 0, .int .u64 0, .int .u64 0, .int .i64 0, .int .u64 0, .int .u64 0, .int .i64 0, .int .i64 0, .slice a7 D.length c7])) rfl (by kernel_rfl) (by kernel_rfl) (by kernel_rfl) (fun _ _ _ h => h) (yieldsIf_build rfl _ _ rfl #[(0, .agg #[.int .i64 f, .int .i64 pr, .int .i64 sf, .int .u64 sh, .int .u64 sl, .int .i64 df, .int .u64 dh, .int .u64 dl, .int .i64 V.1, .int .i64 V.2]), (9, .slice a7 D.length c7)] (by kernel_rfl) _ (fun w9 => by kernel_rfl)) hHeld ?_
  try simp only [Act.put, List.setIfInBounds_toArray, List.set_cons_zero, List.set_cons_succ]
  refine wpAnyH_ready (rs := [6]) (by kernel_rfl) (by simp) ?_
  refine AllReadyH.cons (o := { dst := none, op := Op.store 38 (.tmp 2) (.tmp 54), type := 0, pos := "parse.go:70", after := #[{ on := 5, ground := Ground.data }, { on := 4, ground := Ground.chain }, { on := 0, ground := Ground.phase }, { on := 1, ground := Ground.phase }, { on := 2, ground := Ground.phase }, { on := 3, ground := Ground.phase }, { on := 4, ground := Ground.phase }, { on := 5, ground := Ground.phase }], guard := none }) rfl (fun K hK => ?_) AllReadyH.nil
  refine step_store_blk rfl _ _ _ rfl W1.heap.size #[.int .i64 f, .int .i64 pr, .int .i64 sf, .int .u64 sh, .int .u64 sl, .int .i64 df, .int .u64 dh, .int .u64 dl, .int .i64 V.1, .int .i64 V.2, .int .i64 0, .int .u32 0, .int .u32 0, .int .i64 0, .int .i64 0, .int .i64 0, .bool false, .int .i64 0, .int .i64 0, .int .i64 0, .int .u64 0, .int .u64 0, .int .i64 0, .int .u64 0, .int .u64 0, .int .i64 0, .int .i64 0, .slice a7 D.length c7] _ (by kernel_rfl) (by kernel_rfl) B7' (by kernel_rfl) (by rfl) (by kernel_rfl) ?_
  refine hK.out _ _ ?_ (fun hHeld => ?_)
  · exact B7.other (by omega) _
  clear hK K
  try simp only [Act.put, List.setIfInBounds_toArray, List.set_cons_zero, List.set_cons_succ]
  refine wpAnyH_take (i := 7) (oi := { dst := some 3, op := Op.assign (.const (.int .i64 0)), type := 39, pos := "parse.go:70", after := #[{ on := 6, ground := Ground.chain }, { on := 0, ground := Ground.phase }, { on := 1, ground := Ground.phase }, { on := 2, ground := Ground.phase }, { on := 3, ground := Ground.phase }, { on := 4, ground := Ground.phase }, { on := 5, ground := Ground.phase }, { on := 6, ground := Ground.phase }], guard := none }) (v := (.int .i64 0)) rfl (by kernel_rfl) (by kernel_rfl) (by kernel_rfl) (fun _ _ _ h => h) (Or.inl ⟨by rfl, ?_⟩) hHeld ?_
  · intro w9 hSw
    try dsimp only at hSw
    go_simp
  try simp only [Act.put, List.setIfInBounds_toArray, List.set_cons_zero, List.set_cons_succ]
  refine wpAnyH_done (by kernel_rfl) ?_ _
  refine NoPanic.normal ?_
  have Bf := B7'.set #[.int .i64 f, .int .i64 pr, .int .i64 sf, .int .u64 sh, .int .u64 sl, .int .i64 df, .int .u64 dh, .int .u64 dl, .int .i64 V.1, .int .i64 V.2, .int .i64 0, .int .u32 0, .int .u32 0, .int .i64 0, .int .i64 0, .int .i64 0, .bool false, .int .i64 0, .int .i64 0, .int .i64 0, .int .u64 0, .int .u64 0, .int .i64 0, .int .u64 0, .int .u64 0, .int .i64 0, .int .i64 0, .slice a7 D.length c7]
  have bf := below_setRow b7 (Nat.le_of_lt g1) #[.int .i64 f, .int .i64 pr, .int .i64 sf, .int .u64 sh, .int .u64 sl, .int .i64 df, .int .u64 dh, .int .u64 dl, .int .i64 V.1, .int .i64 V.2, .int .i64 0, .int .u32 0, .int .u32 0, .int .i64 0, .int .i64 0, .int .i64 0, .bool false, .int .i64 0, .int .i64 0, .int .i64 0, .int .u64 0, .int .u64 0, .int .i64 0, .int .u64 0, .int .u64 0, .int .i64 0, .int .i64 0, .slice a7 D.length c7]
  have oo := (owns_le (B' := W1.heap.size + 1) (by have := B6'.lt; omega) f7.owns).row_other (Nat.lt_succ_self _) #[.int .i64 f, .int .i64 pr, .int .i64 sf, .int .u64 sh, .int .u64 sl, .int .i64 df, .int .u64 dh, .int .u64 dl, .int .i64 V.1, .int .i64 V.2, .int .i64 0, .int .u32 0, .int .u32 0, .int .i64 0, .int .i64 0, .int .i64 0, .bool false, .int .i64 0, .int .i64 0, .int .i64 0, .int .u64 0, .int .u64 0, .int .i64 0, .int .u64 0, .int .u64 0, .int .i64 0, .int .i64 0, .slice a7 D.length c7]
  go_wp2_with fail
  refine ret_cell_tmp (k := 2) (j := 3) Try.f56 (by kernel_rfl) Bf Try.underlying38 (by kernel_rfl) (by rfl) (by rfl) rfl ?_
  exact ⟨a7, c7, rfl, owns_le (by omega) oo, f7.room, f7.nil, oo.row f7.row.small f7.row.bytes, bf⟩

theorem udp_any (f sf sh sl df dh dl pr ho : Int) (fg : Bool) (id of : Int) (mo : Bool) (xa : Option Addr) (xn xc : Nat) (da : Option Addr) (dc : Nat) (l : List Int) (w : World) (h : Row w da l) (hnil : da = none → dc = 0) (hc : l.length ≤ dc) (hcm : dc ≤ 9223372036854775807) (hs : Ad.ok ⟨sf, sh, sl⟩) (hd : Ad.ok ⟨df, dh, dl⟩) :
    Calls Try.prog 56 #[.agg #[.int .i64 f, .int .i64 sf, .int .u64 sh, .int .u64 sl, .int .i64 df, .int .u64 dh, .int .u64 dl, .int .i64 pr, .int .i64 ho, .bool fg, .int .u32 id, .int .i64 of, .bool mo, .slice xa xn xc, .slice da l.length dc]] w (GotS w (udpE f pr ⟨sf, sh, sl⟩ ⟨df, dh, dl⟩ l) (if udpE f pr ⟨sf, sh, sl⟩ ⟨df, dh, dl⟩ l = 0 then udpX f pr ⟨sf, sh, sl⟩ ⟨df, dh, dl⟩ l else zSg)) := by
  obtain ⟨E, hE⟩ : ∃ E, udpE f pr ⟨sf, sh, sl⟩ ⟨df, dh, dl⟩ l = E := ⟨_, rfl⟩
  rw [hE]
  unfold udpE at hE
  split at hE
  · rename_i h8
    subst hE
    exact udp_e2 f sf sh sl df dh dl pr ho fg id of mo xa xn xc da dc l w h hnil hc hcm hs hd h8
  rename_i h8
  split at hE
  · rename_i h5
    subst hE
    by_cases h5a : u16v l 4 < 8
    · exact udp_e5a f sf sh sl df dh dl pr ho fg id of mo xa xn xc da dc l w h hnil hc hcm hs hd h8 h5a
    · exact udp_e5b f sf sh sl df dh dl pr ho fg id of mo xa xn xc da dc l w h hnil hc hcm hs hd h8 h5a (by omega)
  rename_i h5
  have h5a : ¬ u16v l 4 < 8 := by omega
  have h6a : ¬ u16v l 4 > (l.length : Int) := by omega
  split at hE
  · rename_i hz
    split at hE
    · rename_i h66
      subst hE
      exact udp_e6a f sf sh sl df dh dl pr ho fg id of mo xa xn xc da dc l w h hnil hc hcm hs hd h8 h5a h6a hz h66
    · rename_i h66
      subst hE
      exact udp_oka f sf sh sl df dh dl pr ho fg id of mo xa xn xc da dc l w h hnil hc hcm hs hd h8 h5a h6a hz h66
  · rename_i hz
    split at hE
    · rename_i hsum
      subst hE
      exact udp_okb f sf sh sl df dh dl pr ho fg id of mo xa xn xc da dc l w h hnil hc hcm hs hd h8 h5a h6a hz hsum
    · rename_i hsum
      subst hE
      exact udp_e6b f sf sh sl df dh dl pr ho fg id of mo xa xn xc da dc l w h hnil hc hcm hs hd h8 h5a h6a hz (by simpa using hsum)

end Go.Proofs.Ytgdpcomcndidcaa

namespace Go.Proofs.Ytgdpcomcndidcaa
open Go.RowKit
set_option linter.unusedVariables false
set_option linter.unusedSimpArgs false

set_option maxRecDepth 100000 in
set_option maxHeartbeats 4000000 in
theorem rightFlags_any (x : Int) (w : World) : Calls Try.prog 68 #[.int .i64 x] w fun e w' => e = .returned (.bool (flagsB x)) ∧ w' = w := by
  go_enter Try.func68, Try.ntmps68
  go_wp2_with fail
  all_goals (go_ret; exact ⟨retB (by unfold flagsB; simp_all), rfl⟩)

set_option maxRecDepth 100000 in
set_option maxHeartbeats 4000000 in
theorem tcp_e2 (f sf sh sl df dh dl pr ho : Int) (fg : Bool) (id of : Int) (mo : Bool) (xa : Option Addr) (xn xc : Nat) (da : Option Addr) (dc : Nat) (l : List Int) (w : World) (h : Row w da l) (hnil : da = none → dc = 0) (hc : l.length ≤ dc) (hcm : dc ≤ 9223372036854775807) (hs : Ad.ok ⟨sf, sh, sl⟩) (hd : Ad.ok ⟨df, dh, dl⟩) (h8 : l.length < 20) :
    Calls Try.prog 55 #[.agg #[.int .i64 f, .int .i64 sf, .int .u64 sh, .int .u64 sl, .int .i64 df, .int .u64 dh, .int .u64 dl, .int .i64 pr, .int .i64 ho, .bool fg, .int .u32 id, .int .i64 of, .bool mo, .slice xa xn xc, .slice da l.length dc]] w (GotS w 2 zSg) := by
  obtain ⟨W1, hW1⟩ : ∃ W1, w.alloc (.cells #[.int .i64 f, .int .i64 sf, .int .u64 sh, .int .u64 sl, .int .i64 df, .int .u64 dh, .int .u64 dl, .int .i64 pr, .int .i64 ho, .bool fg, .int .u32 id, .int .i64 of, .bool mo, .slice xa xn xc, .slice da l.length dc] 64) = W1 := ⟨_, rfl⟩
  obtain ⟨W2, hW2⟩ : ∃ W2, W1.alloc (.cells #[.int .i64 0, .int .i64 0, .int .i64 0, .int .u64 0, .int .u64 0, .int .i64 0, .int .u64 0, .int .u64 0, .int .i64 0, .int .i64 0, .int .i64 0, .int .u32 0, .int .u32 0, .int .i64 0, .int .i64 0, .int .i64 0, .bool false, .int .i64 0, .int .i64 0, .int .i64 0, .int .u64 0, .int .u64 0, .int .i64 0, .int .u64 0, .int .u64 0, .int .i64 0, .int .i64 0, .slice none 0 0] 38) = W2 := ⟨_, rfl⟩
  have b1 : Below w.heap.size w W1 := by rw [← hW1]; exact (Below.refl _ _).alloc (Nat.le_refl _) _
  have b2 : Below w.heap.size w W2 := by rw [← hW2]; exact b1.alloc b1.size _
  have B1' : Blk W1 w.heap.size 64 #[.int .i64 f, .int .i64 sf, .int .u64 sh, .int .u64 sl, .int .i64 df, .int .u64 dh, .int .u64 dl, .int .i64 pr, .int .i64 ho, .bool fg, .int .u32 id, .int .i64 of, .bool mo, .slice xa xn xc, .slice da l.length dc] := by rw [← hW1]; exact blk_new _ _ _
  have B1 : Blk W2 w.heap.size 64 #[.int .i64 f, .int .i64 sf, .int .u64 sh, .int .u64 sl, .int .i64 df, .int .u64 dh, .int .u64 dl, .int .i64 pr, .int .i64 ho, .bool fg, .int .u32 id, .int .i64 of, .bool mo, .slice xa xn xc, .slice da l.length dc] := by rw [← hW2]; exact B1'.alloc _
  have B2 : Blk W2 W1.heap.size 38 #[.int .i64 0, .int .i64 0, .int .i64 0, .int .u64 0, .int .u64 0, .int .i64 0, .int .u64 0, .int .u64 0, .int .i64 0, .int .i64 0, .int .i64 0, .int .u32 0, .int .u32 0, .int .i64 0, .int .i64 0, .int .i64 0, .bool false, .int .i64 0, .int .i64 0, .int .i64 0, .int .u64 0, .int .u64 0, .int .i64 0, .int .u64 0, .int .u64 0, .int .i64 0, .int .i64 0, .slice none 0 0] := by rw [← hW2]; exact blk_new _ _ _
  have g1 : w.heap.size < W1.heap.size := B1'.lt
  clear B1'
  have d0 := B1.cell 0 (.int .i64 f) rfl
  have d14 := B1.cell 14 (.slice da l.length dc) rfl
  have h8' : (l.length : Int) < 20 := by omega
  have hbz : (Instr.build 38 #[]).run Try.prog W2 = .ok (.agg #[.int .i64 0, .int .i64 0, .int .i64 0, .int .u64 0, .int .u64 0, .int .i64 0, .int .u64 0, .int .u64 0, .int .i64 0, .int .i64 0, .int .i64 0, .int .u32 0, .int .u32 0, .int .i64 0, .int .i64 0, .int .i64 0, .bool false, .int .i64 0, .int .i64 0, .int .i64 0, .int .u64 0, .int .u64 0, .int .i64 0, .int .u64 0, .int .u64 0, .int .i64 0, .int .i64 0, .slice none 0 0]) W2 := by kernel_rfl
  go_enter Try.func55, Try.ntmps55
  have Bf := B2.set #[.int .i64 0, .int .i64 0, .int .i64 0, .int .u64 0, .int .u64 0, .int .i64 0, .int .u64 0, .int .u64 0, .int .i64 0, .int .i64 0, .int .i64 0, .int .u32 0, .int .u32 0, .int .i64 0, .int .i64 0, .int .i64 0, .bool false, .int .i64 0, .int .i64 0, .int .i64 0, .int .u64 0, .int .u64 0, .int .i64 0, .int .u64 0, .int .u64 0, .int .i64 0, .int .i64 0, .slice none 0 0]
  have bf := below_setRow b2 (Nat.le_of_lt g1) #[.int .i64 0, .int .i64 0, .int .i64 0, .int .u64 0, .int .u64 0, .int .i64 0, .int .u64 0, .int .u64 0, .int .i64 0, .int .i64 0, .int .i64 0, .int .u32 0, .int .u32 0, .int .i64 0, .int .i64 0, .int .i64 0, .bool false, .int .i64 0, .int .i64 0, .int .i64 0, .int .u64 0, .int .u64 0, .int .i64 0, .int .u64 0, .int .u64 0, .int .i64 0, .int .i64 0, .slice none 0 0]
  go_wp2_with (first
    | (refine wpList_build _ rfl _ _ rfl _ (by rfl) _ hbz ?_)
    | (refine wpList_store_row rfl _ _ _ rfl W1.heap.size #[.int .i64 0, .int .i64 0, .int .i64 0, .int .u64 0, .int .u64 0, .int .i64 0, .int .u64 0, .int .u64 0, .int .i64 0, .int .i64 0, .int .i64 0, .int .u32 0, .int .u32 0, .int .i64 0, .int .i64 0, .int .i64 0, .bool false, .int .i64 0, .int .i64 0, .int .i64 0, .int .u64 0, .int .u64 0, .int .i64 0, .int .u64 0, .int .u64 0, .int .i64 0, .int .i64 0, .slice none 0 0] (by rfl) (by rfl) _ _ B2 (by kernel_rfl) (by rfl) (by kernel_rfl) ?_))
  exact ret_cell_tmp (k := 2) (j := 3) Try.f55 (by kernel_rfl) Bf Try.underlying38 (by kernel_rfl) (by rfl) (by rfl) rfl ⟨none, 0, rfl, fresh_nil bf⟩

set_option maxRecDepth 100000 in
set_option maxHeartbeats 4000000 in
theorem tcp_e4a (f sf sh sl df dh dl pr ho : Int) (fg : Bool) (id of : Int) (mo : Bool) (xa : Option Addr) (xn xc : Nat) (bk off dc : Nat) (l : List Int) (w : World) (h : Row w (some ⟨bk, off, none⟩) l) (hc : l.length ≤ dc) (hcm : dc ≤ 9223372036854775807) (hs : Ad.ok ⟨sf, sh, sl⟩) (hd : Ad.ok ⟨df, dh, dl⟩) (h20 : ¬ l.length < 20) (h4 : tcpH l < 20) :
    Calls Try.prog 55 #[.agg #[.int .i64 f, .int .i64 sf, .int .u64 sh, .int .u64 sl, .int .i64 df, .int .u64 dh, .int .u64 dl, .int .i64 pr, .int .i64 ho, .bool fg, .int .u32 id, .int .i64 of, .bool mo, .slice xa xn xc, .slice (some ⟨bk, off, none⟩) l.length dc]] w (GotS w 4 zSg) := by
  obtain ⟨W1, hW1⟩ : ∃ W1, w.alloc (.cells #[.int .i64 f, .int .i64 sf, .int .u64 sh, .int .u64 sl, .int .i64 df, .int .u64 dh, .int .u64 dl, .int .i64 pr, .int .i64 ho, .bool fg, .int .u32 id, .int .i64 of, .bool mo, .slice xa xn xc, .slice (some ⟨bk, off, none⟩) l.length dc] 64) = W1 := ⟨_, rfl⟩
  obtain ⟨W2, hW2⟩ : ∃ W2, W1.alloc (.cells #[.int .i64 0, .int .i64 0, .int .i64 0, .int .u64 0, .int .u64 0, .int .i64 0, .int .u64 0, .int .u64 0, .int .i64 0, .int .i64 0, .int .i64 0, .int .u32 0, .int .u32 0, .int .i64 0, .int .i64 0, .int .i64 0, .bool false, .int .i64 0, .int .i64 0, .int .i64 0, .int .u64 0, .int .u64 0, .int .i64 0, .int .u64 0, .int .u64 0, .int .i64 0, .int .i64 0, .slice none 0 0] 38) = W2 := ⟨_, rfl⟩
  have b1 : Below w.heap.size w W1 := by rw [← hW1]; exact (Below.refl _ _).alloc (Nat.le_refl _) _
  have b2 : Below w.heap.size w W2 := by rw [← hW2]; exact b1.alloc b1.size _
  have B1' : Blk W1 w.heap.size 64 #[.int .i64 f, .int .i64 sf, .int .u64 sh, .int .u64 sl, .int .i64 df, .int .u64 dh, .int .u64 dl, .int .i64 pr, .int .i64 ho, .bool fg, .int .u32 id, .int .i64 of, .bool mo, .slice xa xn xc, .slice (some ⟨bk, off, none⟩) l.length dc] := by rw [← hW1]; exact blk_new _ _ _
  have B1 : Blk W2 w.heap.size 64 #[.int .i64 f, .int .i64 sf, .int .u64 sh, .int .u64 sl, .int .i64 df, .int .u64 dh, .int .u64 dl, .int .i64 pr, .int .i64 ho, .bool fg, .int .u32 id, .int .i64 of, .bool mo, .slice xa xn xc, .slice (some ⟨bk, off, none⟩) l.length dc] := by rw [← hW2]; exact B1'.alloc _
  have B2 : Blk W2 W1.heap.size 38 #[.int .i64 0, .int .i64 0, .int .i64 0, .int .u64 0, .int .u64 0, .int .i64 0, .int .u64 0, .int .u64 0, .int .i64 0, .int .i64 0, .int .i64 0, .int .u32 0, .int .u32 0, .int .i64 0, .int .i64 0, .int .i64 0, .bool false, .int .i64 0, .int .i64 0, .int .i64 0, .int .u64 0, .int .u64 0, .int .i64 0, .int .u64 0, .int .u64 0, .int .i64 0, .int .i64 0, .slice none 0 0] := by rw [← hW2]; exact blk_new _ _ _
  have g1 : w.heap.size < W1.heap.size := B1'.lt
  clear B1'
  have d0 := B1.cell 0 (.int .i64 f) rfl
  have d14 := B1.cell 14 (.slice (some ⟨bk, off, none⟩) l.length dc) rfl
  have h20' : ¬ (l.length : Int) < 20 := by omega
  obtain ⟨x12, e12⟩ : ∃ x, l.getD 12 0 = x := ⟨_, rfl⟩
  obtain ⟨x13, e13⟩ : ∃ x, l.getD 13 0 = x := ⟨_, rfl⟩
  have q12 := h.bytes.get 12
  have q13 := h.bytes.get 13
  obtain ⟨bk', off', ee, hcl⟩ := h.cells (by omega)
  cases ee
  have y12 := kept (b := bk) (o := off + 12) b2 (hcl 12 (by omega))
  have y13 := kept (b := bk) (o := off + 13) b2 (hcl 13 (by omega))
  rw [e12] at y12 q12
  rw [e13] at y13 q13
  clear hcl
  have i12 : (12 : Int) < (l.length : Int) := by omega
  have i13 : (13 : Int) < (l.length : Int) := by omega
  have wx12 : IntKind.i64.wrap (x12 / 16) = x12 / 16 := wraps_i64 _ (by omega) (by omega)
  have wm12 : IntKind.i64.wrap (x12 / 16 * 4) = x12 / 16 * 4 := wraps_i64 _ (by omega) (by omega)
  have wx13 : IntKind.i64.wrap x13 = x13 := wraps_i64 _ (by omega) (by omega)
  obtain ⟨H, hH⟩ : ∃ H, x12 / 16 * 4 = H := ⟨_, rfl⟩
  obtain ⟨FL, hF⟩ : ∃ F, bits .and .i64 x13 63 = F := ⟨_, rfl⟩
  have wH : IntKind.i64.wrap H = H := by rw [← hH]; exact wm12
  have eH : tcpH l = H := by unfold tcpH; rw [e12, hH]
  have eF : tcpF l = FL := by unfold tcpF; rw [e13, hF]
  rw [eH] at h4
  clear eH eF e12 e13
  go_enter Try.func55, Try.ntmps55
  go_wp2_with fail
  refine wp_region_noPanic ?_
  refine wp_region_held_drew (S := fun w' => w'.cell? ⟨bk, off + 12, none⟩ = some (.int .u8 x12) ∧ w'.cell? ⟨bk, off + 13, none⟩ = some (.int .u8 x13)) (by kernel_rfl) (by exact ⟨y12, y13⟩) (fun hHeld => ?_)
  refine wpAnyH_take (i := 0) (oi := { dst := some 17, op := Op.move (.tmp 4), type := 28, pos := "parse.go:42", after := #[], guard := none }) (v := (.slice (some ⟨bk, off, none⟩) l.length dc)) rfl (by kernel_rfl) (by kernel_rfl) (by kernel_rfl) (fun _ _ _ h => h) (Or.inl ⟨by rfl, ?_⟩) hHeld ?_
  · intro w9 hSw
    try dsimp only at hSw
    go_simp
  try simp only [Act.put, List.setIfInBounds_toArray, List.set_cons_zero, List.set_cons_succ]
  refine wpAnyH_take (i := 1) (oi := { dst := some 18, op := Op.indexAddr 28 (.tmp 17) (.const (.int .i64 12)), type := 0, pos := "parse.go:42", after := #[{ on := 0, ground := Ground.data }], guard := none }) (v := (.pointer (some ⟨bk, off + 12, none⟩))) rfl (by kernel_rfl) (by kernel_rfl) (by kernel_rfl) (fun _ _ _ h => h) (Or.inl ⟨by rfl, ?_⟩) hHeld ?_
  · intro w9 hSw
    try dsimp only at hSw
    go_simp
  try simp only [Act.put, List.setIfInBounds_toArray, List.set_cons_zero, List.set_cons_succ]
  refine wpAnyH_take (i := 2) (oi := { dst := some 19, op := Op.load 5 (.tmp 18), type := 5, pos := "parse.go:42", after := #[{ on := 1, ground := Ground.data }], guard := none }) (v := (.int .u8 x12)) rfl (by kernel_rfl) (by kernel_rfl) (by kernel_rfl) (fun _ _ _ h => h) (Or.inl ⟨by rfl, ?_⟩) hHeld ?_
  · intro w9 hSw
    try dsimp only at hSw
    go_simp
  try simp only [Act.put, List.setIfInBounds_toArray, List.set_cons_zero, List.set_cons_succ]
  refine wpAnyH_take (i := 3) (oi := { dst := some 20, op := Op.binOp BinOp.shr 5 (.tmp 19) (.const (.int .u64 4)) 72, type := 5, pos := "parse.go:42", after := #[{ on := 2, ground := Ground.data }], guard := none }) (v := (.int .u8 (x12 / 16))) rfl (by kernel_rfl) (by kernel_rfl) (by kernel_rfl) (fun _ _ _ h => h) (Or.inl ⟨by rfl, ?_⟩) hHeld ?_
  · intro w9 hSw
    try dsimp only at hSw
    go_simp
  try simp only [Act.put, List.setIfInBounds_toArray, List.set_cons_zero, List.set_cons_succ]
  refine wpAnyH_take (i := 4) (oi := { dst := some 21, op := Op.convert 5 3 (.tmp 20), type := 3, pos := "parse.go:42", after := #[{ on := 3, ground := Ground.data }], guard := none }) (v := (.int .i64 (x12 / 16))) rfl (by kernel_rfl) (by kernel_rfl) (by kernel_rfl) (fun _ _ _ h => h) (Or.inl ⟨by rfl, ?_⟩) hHeld ?_
  · intro w9 hSw
    try dsimp only at hSw
    go_simp
  try simp only [Act.put, List.setIfInBounds_toArray, List.set_cons_zero, List.set_cons_succ]
  refine wpAnyH_take (i := 5) (oi := { dst := some 22, op := Op.binOp BinOp.mul 3 (.tmp 21) (.const (.int .i64 4)) 3, type := 3, pos := "parse.go:42", after := #[{ on := 4, ground := Ground.data }], guard := none }) (v := (.int .i64 H)) rfl (by kernel_rfl) (by kernel_rfl) (by kernel_rfl) (fun _ _ _ h => h) (Or.inl ⟨by rfl, ?_⟩) hHeld ?_
  · intro w9 hSw
    try dsimp only at hSw
    go_simp
    try exact hH
  try simp only [Act.put, List.setIfInBounds_toArray, List.set_cons_zero, List.set_cons_succ]
  refine wpAnyH_take (i := 6) (oi := { dst := some 23, op := Op.move (.tmp 4), type := 28, pos := "parse.go:42", after := #[{ on := 11, ground := Ground.gcOnly Departure.lateStores }], guard := none }) (v := (.slice (some ⟨bk, off, none⟩) l.length dc)) rfl (by kernel_rfl) (by kernel_rfl) (by kernel_rfl) (fun _ _ _ h => h) (Or.inl ⟨by rfl, ?_⟩) hHeld ?_
  · intro w9 hSw
    try dsimp only at hSw
    go_simp
  try simp only [Act.put, List.setIfInBounds_toArray, List.set_cons_zero, List.set_cons_succ]
  refine wpAnyH_take (i := 7) (oi := { dst := some 24, op := Op.indexAddr 28 (.tmp 23) (.const (.int .i64 13)), type := 0, pos := "parse.go:42", after := #[{ on := 6, ground := Ground.data }, { on := 11, ground := Ground.gcOnly Departure.lateStores }], guard := none }) (v := (.pointer (some ⟨bk, off + 13, none⟩))) rfl (by kernel_rfl) (by kernel_rfl) (by kernel_rfl) (fun _ _ _ h => h) (Or.inl ⟨by rfl, ?_⟩) hHeld ?_
  · intro w9 hSw
    try dsimp only at hSw
    go_simp
  try simp only [Act.put, List.setIfInBounds_toArray, List.set_cons_zero, List.set_cons_succ]
  refine wpAnyH_take (i := 8) (oi := { dst := some 25, op := Op.load 5 (.tmp 24), type := 5, pos := "parse.go:42", after := #[{ on := 7, ground := Ground.data }, { on := 11, ground := Ground.gcOnly Departure.lateStores }], guard := none }) (v := (.int .u8 x13)) rfl (by kernel_rfl) (by kernel_rfl) (by kernel_rfl) (fun _ _ _ h => h) (Or.inl ⟨by rfl, ?_⟩) hHeld ?_
  · intro w9 hSw
    try dsimp only at hSw
    go_simp
  try simp only [Act.put, List.setIfInBounds_toArray, List.set_cons_zero, List.set_cons_succ]
  refine wpAnyH_take (i := 9) (oi := { dst := some 26, op := Op.convert 5 3 (.tmp 25), type := 3, pos := "parse.go:42", after := #[{ on := 8, ground := Ground.data }, { on := 11, ground := Ground.gcOnly Departure.lateStores }], guard := none }) (v := (.int .i64 x13)) rfl (by kernel_rfl) (by kernel_rfl) (by kernel_rfl) (fun _ _ _ h => h) (Or.inl ⟨by rfl, ?_⟩) hHeld ?_
  · intro w9 hSw
    try dsimp only at hSw
    go_simp
  try simp only [Act.put, List.setIfInBounds_toArray, List.set_cons_zero, List.set_cons_succ]
  refine wpAnyH_take (i := 10) (oi := { dst := some 27, op := Op.binOp BinOp.and 3 (.tmp 26) (.const (.int .i64 63)) 3, type := 3, pos := "parse.go:42", after := #[{ on := 9, ground := Ground.data }, { on := 11, ground := Ground.gcOnly Departure.lateStores }], guard := none }) (v := (.int .i64 FL)) rfl (by kernel_rfl) (by kernel_rfl) (by kernel_rfl) (fun _ _ _ h => h) (Or.inl ⟨by rfl, ?_⟩) hHeld ?_
  · intro w9 hSw
    try dsimp only at hSw
    go_simp
    try exact hF
  try simp only [Act.put, List.setIfInBounds_toArray, List.set_cons_zero, List.set_cons_succ]
  refine wpAnyH_take (i := 11) (oi := { dst := some 5, op := Op.assign (.tmp 22), type := 3, pos := "parse.go:42", after := #[{ on := 5, ground := Ground.data }, { on := 0, ground := Ground.phase }, { on := 1, ground := Ground.phase }, { on := 2, ground := Ground.phase }, { on := 3, ground := Ground.phase }, { on := 4, ground := Ground.phase }, { on := 5, ground := Ground.phase }, { on := 6, ground := Ground.textOnly Departure.lateStores }, { on := 7, ground := Ground.textOnly Departure.lateStores }, { on := 8, ground := Ground.textOnly Departure.lateStores }, { on := 9, ground := Ground.textOnly Departure.lateStores }, { on := 10, ground := Ground.textOnly Departure.lateStores }], guard := none }) (v := (.int .i64 H)) rfl (by kernel_rfl) (by kernel_rfl) (by kernel_rfl) (fun _ _ _ h => h) (Or.inl ⟨by rfl, ?_⟩) hHeld ?_
  · intro w9 hSw
    try dsimp only at hSw
    go_simp
  try simp only [Act.put, List.setIfInBounds_toArray, List.set_cons_zero, List.set_cons_succ]
  refine wpAnyH_take (i := 12) (oi := { dst := some 6, op := Op.assign (.tmp 27), type := 3, pos := "parse.go:42", after := #[{ on := 10, ground := Ground.data }, { on := 11, ground := Ground.chain }, { on := 0, ground := Ground.phase }, { on := 1, ground := Ground.phase }, { on := 2, ground := Ground.phase }, { on := 3, ground := Ground.phase }, { on := 4, ground := Ground.phase }, { on := 5, ground := Ground.phase }, { on := 6, ground := Ground.phase }, { on := 7, ground := Ground.phase }, { on := 8, ground := Ground.phase }, { on := 9, ground := Ground.phase }, { on := 10, ground := Ground.phase }, { on := 11, ground := Ground.phase }], guard := none }) (v := (.int .i64 FL)) rfl (by kernel_rfl) (by kernel_rfl) (by kernel_rfl) (fun _ _ _ h => h) (Or.inl ⟨by rfl, ?_⟩) hHeld ?_
  · intro w9 hSw
    try dsimp only at hSw
    go_simp
  try simp only [Act.put, List.setIfInBounds_toArray, List.set_cons_zero, List.set_cons_succ]
  refine wpAnyH_done (by kernel_rfl) ?_ _
  refine NoPanic.normal ?_
  replace B1 := B1.drew
  replace B2 := B2.drew
  replace b2 := b2.drew
  clear hW1 hW2 y12 y13 d0 d14 hHeld hH hF wx12 wm12 wx13 wH i12 i13
  generalize W2.drew = W3 at *
  have hbz : (Instr.build 38 #[]).run Try.prog W3 = .ok (.agg #[.int .i64 0, .int .i64 0, .int .i64 0, .int .u64 0, .int .u64 0, .int .i64 0, .int .u64 0, .int .u64 0, .int .i64 0, .int .i64 0, .int .i64 0, .int .u32 0, .int .u32 0, .int .i64 0, .int .i64 0, .int .i64 0, .bool false, .int .i64 0, .int .i64 0, .int .i64 0, .int .u64 0, .int .u64 0, .int .i64 0, .int .u64 0, .int .u64 0, .int .i64 0, .int .i64 0, .slice none 0 0]) W3 := by kernel_rfl
  have Bf := B2.set #[.int .i64 0, .int .i64 0, .int .i64 0, .int .u64 0, .int .u64 0, .int .i64 0, .int .u64 0, .int .u64 0, .int .i64 0, .int .i64 0, .int .i64 0, .int .u32 0, .int .u32 0, .int .i64 0, .int .i64 0, .int .i64 0, .bool false, .int .i64 0, .int .i64 0, .int .i64 0, .int .u64 0, .int .u64 0, .int .i64 0, .int .u64 0, .int .u64 0, .int .i64 0, .int .i64 0, .slice none 0 0]
  have bf := below_setRow b2 (Nat.le_of_lt g1) #[.int .i64 0, .int .i64 0, .int .i64 0, .int .u64 0, .int .u64 0, .int .i64 0, .int .u64 0, .int .u64 0, .int .i64 0, .int .i64 0, .int .i64 0, .int .u32 0, .int .u32 0, .int .i64 0, .int .i64 0, .int .i64 0, .bool false, .int .i64 0, .int .i64 0, .int .i64 0, .int .u64 0, .int .u64 0, .int .i64 0, .int .u64 0, .int .u64 0, .int .i64 0, .int .i64 0, .slice none 0 0]
  go_wp2_with (first
    | (refine wpList_build _ rfl _ _ rfl _ (by rfl) _ hbz ?_)
    | (refine wpList_store_row rfl _ _ _ rfl W1.heap.size #[.int .i64 0, .int .i64 0, .int .i64 0, .int .u64 0, .int .u64 0, .int .i64 0, .int .u64 0, .int .u64 0, .int .i64 0, .int .i64 0, .int .i64 0, .int .u32 0, .int .u32 0, .int .i64 0, .int .i64 0, .int .i64 0, .bool false, .int .i64 0, .int .i64 0, .int .i64 0, .int .u64 0, .int .u64 0, .int .i64 0, .int .u64 0, .int .u64 0, .int .i64 0, .int .i64 0, .slice none 0 0] (by rfl) (by rfl) _ _ B2 (by kernel_rfl) (by rfl) (by kernel_rfl) ?_))
  exact ret_cell_tmp (k := 2) (j := 3) Try.f55 (by kernel_rfl) Bf Try.underlying38 (by kernel_rfl) (by rfl) (by rfl) rfl ⟨none, 0, rfl, fresh_nil bf⟩

set_option maxRecDepth 100000 in
set_option maxHeartbeats 4000000 in
theorem tcp_e4b (f sf sh sl df dh dl pr ho : Int) (fg : Bool) (id of : Int) (mo : Bool) (xa : Option Addr) (xn xc : Nat) (bk off dc : Nat) (l : List Int) (w : World) (h : Row w (some ⟨bk, off, none⟩) l) (hc : l.length ≤ dc) (hcm : dc ≤ 9223372036854775807) (hs : Ad.ok ⟨sf, sh, sl⟩) (hd : Ad.ok ⟨df, dh, dl⟩) (h20 : ¬ l.length < 20) (h4 : ¬ tcpH l < 20) (h5 : tcpH l > (l.length : Int)) :
    Calls Try.prog 55 #[.agg #[.int .i64 f, .int .i64 sf, .int .u64 sh, .int .u64 sl, .int .i64 df, .int .u64 dh, .int .u64 dl, .int .i64 pr, .int .i64 ho, .bool fg, .int .u32 id, .int .i64 of, .bool mo, .slice xa xn xc, .slice (some ⟨bk, off, none⟩) l.length dc]] w (GotS w 4 zSg) := by
  obtain ⟨W1, hW1⟩ : ∃ W1, w.alloc (.cells #[.int .i64 f, .int .i64 sf, .int .u64 sh, .int .u64 sl, .int .i64 df, .int .u64 dh, .int .u64 dl, .int .i64 pr, .int .i64 ho, .bool fg, .int .u32 id, .int .i64 of, .bool mo, .slice xa xn xc, .slice (some ⟨bk, off, none⟩) l.length dc] 64) = W1 := ⟨_, rfl⟩
  obtain ⟨W2, hW2⟩ : ∃ W2, W1.alloc (.cells #[.int .i64 0, .int .i64 0, .int .i64 0, .int .u64 0, .int .u64 0, .int .i64 0, .int .u64 0, .int .u64 0, .int .i64 0, .int .i64 0, .int .i64 0, .int .u32 0, .int .u32 0, .int .i64 0, .int .i64 0, .int .i64 0, .bool false, .int .i64 0, .int .i64 0, .int .i64 0, .int .u64 0, .int .u64 0, .int .i64 0, .int .u64 0, .int .u64 0, .int .i64 0, .int .i64 0, .slice none 0 0] 38) = W2 := ⟨_, rfl⟩
  have b1 : Below w.heap.size w W1 := by rw [← hW1]; exact (Below.refl _ _).alloc (Nat.le_refl _) _
  have b2 : Below w.heap.size w W2 := by rw [← hW2]; exact b1.alloc b1.size _
  have B1' : Blk W1 w.heap.size 64 #[.int .i64 f, .int .i64 sf, .int .u64 sh, .int .u64 sl, .int .i64 df, .int .u64 dh, .int .u64 dl, .int .i64 pr, .int .i64 ho, .bool fg, .int .u32 id, .int .i64 of, .bool mo, .slice xa xn xc, .slice (some ⟨bk, off, none⟩) l.length dc] := by rw [← hW1]; exact blk_new _ _ _
  have B1 : Blk W2 w.heap.size 64 #[.int .i64 f, .int .i64 sf, .int .u64 sh, .int .u64 sl, .int .i64 df, .int .u64 dh, .int .u64 dl, .int .i64 pr, .int .i64 ho, .bool fg, .int .u32 id, .int .i64 of, .bool mo, .slice xa xn xc, .slice (some ⟨bk, off, none⟩) l.length dc] := by rw [← hW2]; exact B1'.alloc _
  have B2 : Blk W2 W1.heap.size 38 #[.int .i64 0, .int .i64 0, .int .i64 0, .int .u64 0, .int .u64 0, .int .i64 0, .int .u64 0, .int .u64 0, .int .i64 0, .int .i64 0, .int .i64 0, .int .u32 0, .int .u32 0, .int .i64 0, .int .i64 0, .int .i64 0, .bool false, .int .i64 0, .int .i64 0, .int .i64 0, .int .u64 0, .int .u64 0, .int .i64 0, .int .u64 0, .int .u64 0, .int .i64 0, .int .i64 0, .slice none 0 0] := by rw [← hW2]; exact blk_new _ _ _
  have g1 : w.heap.size < W1.heap.size := B1'.lt
  clear B1'
  have d0 := B1.cell 0 (.int .i64 f) rfl
  have d14 := B1.cell 14 (.slice (some ⟨bk, off, none⟩) l.length dc) rfl
  have h20' : ¬ (l.length : Int) < 20 := by omega
  obtain ⟨x12, e12⟩ : ∃ x, l.getD 12 0 = x := ⟨_, rfl⟩
  obtain ⟨x13, e13⟩ : ∃ x, l.getD 13 0 = x := ⟨_, rfl⟩
  have q12 := h.bytes.get 12
  have q13 := h.bytes.get 13
  obtain ⟨bk', off', ee, hcl⟩ := h.cells (by omega)
  cases ee
  have y12 := kept (b := bk) (o := off + 12) b2 (hcl 12 (by omega))
  have y13 := kept (b := bk) (o := off + 13) b2 (hcl 13 (by omega))
  rw [e12] at y12 q12
  rw [e13] at y13 q13
  clear hcl
  have i12 : (12 : Int) < (l.length : Int) := by omega
  have i13 : (13 : Int) < (l.length : Int) := by omega
  have wx12 : IntKind.i64.wrap (x12 / 16) = x12 / 16 := wraps_i64 _ (by omega) (by omega)
  have wm12 : IntKind.i64.wrap (x12 / 16 * 4) = x12 / 16 * 4 := wraps_i64 _ (by omega) (by omega)
  have wx13 : IntKind.i64.wrap x13 = x13 := wraps_i64 _ (by omega) (by omega)
  obtain ⟨H, hH⟩ : ∃ H, x12 / 16 * 4 = H := ⟨_, rfl⟩
  obtain ⟨FL, hF⟩ : ∃ F, bits .and .i64 x13 63 = F := ⟨_, rfl⟩
  have wH : IntKind.i64.wrap H = H := by rw [← hH]; exact wm12
  have eH : tcpH l = H := by unfold tcpH; rw [e12, hH]
  have eF : tcpF l = FL := by unfold tcpF; rw [e13, hF]
  rw [eH] at h4 h5
  clear eH eF e12 e13
  go_enter Try.func55, Try.ntmps55
  go_wp2_with fail
  refine wp_region_noPanic ?_
  refine wp_region_held_drew (S := fun w' => w'.cell? ⟨bk, off + 12, none⟩ = some (.int .u8 x12) ∧ w'.cell? ⟨bk, off + 13, none⟩ = some (.int .u8 x13)) (by kernel_rfl) (by exact ⟨y12, y13⟩) (fun hHeld => ?_)
  refine wpAnyH_take (i := 0) (oi := { dst := some 17, op := Op.move (.tmp 4), type := 28, pos := "parse.go:42", after := #[], guard := none }) (v := (.slice (some ⟨bk, off, none⟩) l.length dc)) rfl (by kernel_rfl) (by kernel_rfl) (by kernel_rfl) (fun _ _ _ h => h) (Or.inl ⟨by rfl, ?_⟩) hHeld ?_
  · intro w9 hSw
    try dsimp only at hSw
    go_simp
  try simp only [Act.put, List.setIfInBounds_toArray, List.set_cons_zero, List.set_cons_succ]
  refine wpAnyH_take (i := 1) (oi := { dst := some 18, op := Op.indexAddr 28 (.tmp 17) (.const (.int .i64 12)), type := 0, pos := "parse.go:42", after := #[{ on := 0, ground := Ground.data }], guard := none }) (v := (.pointer (some ⟨bk, off + 12, none⟩))) rfl (by kernel_rfl) (by kernel_rfl) (by kernel_rfl) (fun _ _ _ h => h) (Or.inl ⟨by rfl, ?_⟩) hHeld ?_
  · intro w9 hSw
    try dsimp only at hSw
    go_simp
  try simp only [Act.put, List.setIfInBounds_toArray, List.set_cons_zero, List.set_cons_succ]
  refine wpAnyH_take (i := 2) (oi := { dst := some 19, op := Op.load 5 (.tmp 18), type := 5, pos := "parse.go:42", after := #[{ on := 1, ground := Ground.data }], guard := none }) (v := (.int .u8 x12)) rfl (by kernel_rfl) (by kernel_rfl) (by kernel_rfl) (fun _ _ _ h => h) (Or.inl ⟨by rfl, ?_⟩) hHeld ?_
  · intro w9 hSw
    try dsimp only at hSw
    go_simp
  try simp only [Act.put, List.setIfInBounds_toArray, List.set_cons_zero, List.set_cons_succ]
  refine wpAnyH_take (i := 3) (oi := { dst := some 20, op := Op.binOp BinOp.shr 5 (.tmp 19) (.const (.int .u64 4)) 72, type := 5, pos := "parse.go:42", after := #[{ on := 2, ground := Ground.data }], guard := none }) (v := (.int .u8 (x12 / 16))) rfl (by kernel_rfl) (by kernel_rfl) (by kernel_rfl) (fun _ _ _ h => h) (Or.inl ⟨by rfl, ?_⟩) hHeld ?_
  · intro w9 hSw
    try dsimp only at hSw
    go_simp
  try simp only [Act.put, List.setIfInBounds_toArray, List.set_cons_zero, List.set_cons_succ]
  refine wpAnyH_take (i := 4) (oi := { dst := some 21, op := Op.convert 5 3 (.tmp 20), type := 3, pos := "parse.go:42", after := #[{ on := 3, ground := Ground.data }], guard := none }) (v := (.int .i64 (x12 / 16))) rfl (by kernel_rfl) (by kernel_rfl) (by kernel_rfl) (fun _ _ _ h => h) (Or.inl ⟨by rfl, ?_⟩) hHeld ?_
  · intro w9 hSw
    try dsimp only at hSw
    go_simp
  try simp only [Act.put, List.setIfInBounds_toArray, List.set_cons_zero, List.set_cons_succ]
  refine wpAnyH_take (i := 5) (oi := { dst := some 22, op := Op.binOp BinOp.mul 3 (.tmp 21) (.const (.int .i64 4)) 3, type := 3, pos := "parse.go:42", after := #[{ on := 4, ground := Ground.data }], guard := none }) (v := (.int .i64 H)) rfl (by kernel_rfl) (by kernel_rfl) (by kernel_rfl) (fun _ _ _ h => h) (Or.inl ⟨by rfl, ?_⟩) hHeld ?_
  · intro w9 hSw
    try dsimp only at hSw
    go_simp
    try exact hH
  try simp only [Act.put, List.setIfInBounds_toArray, List.set_cons_zero, List.set_cons_succ]
  refine wpAnyH_take (i := 6) (oi := { dst := some 23, op := Op.move (.tmp 4), type := 28, pos := "parse.go:42", after := #[{ on := 11, ground := Ground.gcOnly Departure.lateStores }], guard := none }) (v := (.slice (some ⟨bk, off, none⟩) l.length dc)) rfl (by kernel_rfl) (by kernel_rfl) (by kernel_rfl) (fun _ _ _ h => h) (Or.inl ⟨by rfl, ?_⟩) hHeld ?_
  · intro w9 hSw
    try dsimp only at hSw
    go_simp
  try simp only [Act.put, List.setIfInBounds_toArray, List.set_cons_zero, List.set_cons_succ]
  refine wpAnyH_take (i := 7) (oi := { dst := some 24, op := Op.indexAddr 28 (.tmp 23) (.const (.int .i64 13)), type := 0, pos := "parse.go:42", after := #[{ on := 6, ground := Ground.data }, { on := 11, ground := Ground.gcOnly Departure.lateStores }], guard := none }) (v := (.pointer (some ⟨bk, off + 13, none⟩))) rfl (by kernel_rfl) (by kernel_rfl) (by kernel_rfl) (fun _ _ _ h => h) (Or.inl ⟨by rfl, ?_⟩) hHeld ?_
  · intro w9 hSw
    try dsimp only at hSw
    go_simp
  try simp only [Act.put, List.setIfInBounds_toArray, List.set_cons_zero, List.set_cons_succ]
  refine wpAnyH_take (i := 8) (oi := { dst := some 25, op := Op.load 5 (.tmp 24), type := 5, pos := "parse.go:42", after := #[{ on := 7, ground := Ground.data }, { on := 11, ground := Ground.gcOnly Departure.lateStores }], guard := none }) (v := (.int .u8 x13)) rfl (by kernel_rfl) (by kernel_rfl) (by kernel_rfl) (fun _ _ _ h => h) (Or.inl ⟨by rfl, ?_⟩) hHeld ?_
  · intro w9 hSw
    try dsimp only at hSw
    go_simp
  try simp only [Act.put, List.setIfInBounds_toArray, List.set_cons_zero, List.set_cons_succ]
  refine wpAnyH_take (i := 9) (oi := { dst := some 26, op := Op.convert 5 3 (.tmp 25), type := 3, pos := "parse.go:42", after := #[{ on := 8, ground := Ground.data }, { on := 11, ground := Ground.gcOnly Departure.lateStores }], guard := none }) (v := (.int .i64 x13)) rfl (by kernel_rfl) (by kernel_rfl) (by kernel_rfl) (fun _ _ _ h => h) (Or.inl ⟨by rfl, ?_⟩) hHeld ?_
  · intro w9 hSw
    try dsimp only at hSw
    go_simp
  try simp only [Act.put, List.setIfInBounds_toArray, List.set_cons_zero, List.set_cons_succ]
  refine wpAnyH_take (i := 10) (oi := { dst := some 27, op := Op.binOp BinOp.and 3 (.tmp 26) (.const (.int .i64 63)) 3, type := 3, pos := "parse.go:42", after := #[{ on := 9, ground := Ground.data }, { on := 11, ground := Ground.gcOnly Departure.lateStores }], guard := none }) (v := (.int .i64 FL)) rfl (by kernel_rfl) (by kernel_rfl) (by kernel_rfl) (fun _ _ _ h => h) (Or.inl ⟨by rfl, ?_⟩) hHeld ?_
  · intro w9 hSw
    try dsimp only at hSw
    go_simp
    try exact hF
  try simp only [Act.put, List.setIfInBounds_toArray, List.set_cons_zero, List.set_cons_succ]
  refine wpAnyH_take (i := 11) (oi := { dst := some 5, op := Op.assign (.tmp 22), type := 3, pos := "parse.go:42", after := #[{ on := 5, ground := Ground.data }, { on := 0, ground := Ground.phase }, { on := 1, ground := Ground.phase }, { on := 2, ground := Ground.phase }, { on := 3, ground := Ground.phase }, { on := 4, ground := Ground.phase }, { on := 5, ground := Ground.phase }, { on := 6, ground := Ground.textOnly Departure.lateStores }, { on := 7, ground := Ground.textOnly Departure.lateStores }, { on := 8, ground := Ground.textOnly Departure.lateStores }, { on := 9, ground := Ground.textOnly Departure.lateStores }, { on := 10, ground := Ground.textOnly Departure.lateStores }], guard := none }) (v := (.int .i64 H)) rfl (by kernel_rfl) (by kernel_rfl) (by kernel_rfl) (fun _ _ _ h => h) (Or.inl ⟨by rfl, ?_⟩) hHeld ?_
  · intro w9 hSw
    try dsimp only at hSw
    go_simp
  try simp only [Act.put, List.setIfInBounds_toArray, List.set_cons_zero, List.set_cons_succ]
  refine wpAnyH_take (i := 12) (oi := { dst := some 6, op := Op.assign (.tmp 27), type := 3, pos := "parse.go:42", after := #[{ on := 10, ground := Ground.data }, { on := 11, ground := Ground.chain }, { on := 0, ground := Ground.phase }, { on := 1, ground := Ground.phase }, { on := 2, ground := Ground.phase }, { on := 3, ground := Ground.phase }, { on := 4, ground := Ground.phase }, { on := 5, ground := Ground.phase }, { on := 6, ground := Ground.phase }, { on := 7, ground := Ground.phase }, { on := 8, ground := Ground.phase }, { on := 9, ground := Ground.phase }, { on := 10, ground := Ground.phase }, { on := 11, ground := Ground.phase }], guard := none }) (v := (.int .i64 FL)) rfl (by kernel_rfl) (by kernel_rfl) (by kernel_rfl) (fun _ _ _ h => h) (Or.inl ⟨by rfl, ?_⟩) hHeld ?_
  · intro w9 hSw
    try dsimp only at hSw
    go_simp
  try simp only [Act.put, List.setIfInBounds_toArray, List.set_cons_zero, List.set_cons_succ]
  refine wpAnyH_done (by kernel_rfl) ?_ _
  refine NoPanic.normal ?_
  replace B1 := B1.drew
  replace B2 := B2.drew
  replace b2 := b2.drew
  clear hW1 hW2 y12 y13 d0 d14 hHeld hH hF wx12 wm12 wx13 wH i12 i13
  generalize W2.drew = W3 at *
  have hbz : (Instr.build 38 #[]).run Try.prog W3 = .ok (.agg #[.int .i64 0, .int .i64 0, .int .i64 0, .int .u64 0, .int .u64 0, .int .i64 0, .int .u64 0, .int .u64 0, .int .i64 0, .int .i64 0, .int .i64 0, .int .u32 0, .int .u32 0, .int .i64 0, .int .i64 0, .int .i64 0, .bool false, .int .i64 0, .int .i64 0, .int .i64 0, .int .u64 0, .int .u64 0, .int .i64 0, .int .u64 0, .int .u64 0, .int .i64 0, .int .i64 0, .slice none 0 0]) W3 := by kernel_rfl
  have Bf := B2.set #[.int .i64 0, .int .i64 0, .int .i64 0, .int .u64 0, .int .u64 0, .int .i64 0, .int .u64 0, .int .u64 0, .int .i64 0, .int .i64 0, .int .i64 0, .int .u32 0, .int .u32 0, .int .i64 0, .int .i64 0, .int .i64 0, .bool false, .int .i64 0, .int .i64 0, .int .i64 0, .int .u64 0, .int .u64 0, .int .i64 0, .int .u64 0, .int .u64 0, .int .i64 0, .int .i64 0, .slice none 0 0]
  have bf := below_setRow b2 (Nat.le_of_lt g1) #[.int .i64 0, .int .i64 0, .int .i64 0, .int .u64 0, .int .u64 0, .int .i64 0, .int .u64 0, .int .u64 0, .int .i64 0, .int .i64 0, .int .i64 0, .int .u32 0, .int .u32 0, .int .i64 0, .int .i64 0, .int .i64 0, .bool false, .int .i64 0, .int .i64 0, .int .i64 0, .int .u64 0, .int .u64 0, .int .i64 0, .int .u64 0, .int .u64 0, .int .i64 0, .int .i64 0, .slice none 0 0]
  go_wp2_with (first
    | (refine wpList_build _ rfl _ _ rfl _ (by rfl) _ hbz ?_)
    | (refine wpList_store_row rfl _ _ _ rfl W1.heap.size #[.int .i64 0, .int .i64 0, .int .i64 0, .int .u64 0, .int .u64 0, .int .i64 0, .int .u64 0, .int .u64 0, .int .i64 0, .int .i64 0, .int .i64 0, .int .u32 0, .int .u32 0, .int .i64 0, .int .i64 0, .int .i64 0, .bool false, .int .i64 0, .int .i64 0, .int .i64 0, .int .u64 0, .int .u64 0, .int .i64 0, .int .u64 0, .int .u64 0, .int .i64 0, .int .i64 0, .slice none 0 0] (by rfl) (by rfl) _ _ B2 (by kernel_rfl) (by rfl) (by kernel_rfl) ?_))
  exact ret_cell_tmp (k := 2) (j := 3) Try.f55 (by kernel_rfl) Bf Try.underlying38 (by kernel_rfl) (by rfl) (by rfl) rfl ⟨none, 0, rfl, fresh_nil bf⟩

end Go.Proofs.Ytgdpcomcndidcaa

namespace Go.Proofs.Ytgdpcomcndidcaa
open Go.RowKit
set_option linter.unusedVariables false
set_option linter.unusedSimpArgs false

set_option maxRecDepth 100000 in
set_option maxHeartbeats 4000000 in
theorem tcp_e6 (f sf sh sl df dh dl pr ho : Int) (fg : Bool) (id of : Int) (mo : Bool) (xa : Option Addr) (xn xc : Nat) (bk off dc : Nat) (l : List Int) (w : World) (h : Row w (some ⟨bk, off, none⟩) l) (hc : l.length ≤ dc) (hcm : dc ≤ 9223372036854775807) (hs : Ad.ok ⟨sf, sh, sl⟩) (hd : Ad.ok ⟨df, dh, dl⟩) (h20 : ¬ l.length < 20) (h4 : ¬ tcpH l < 20) (h5 : ¬ tcpH l > (l.length : Int)) (hsum : sumsB ⟨sf, sh, sl⟩ ⟨df, dh, dl⟩ pr l = false) :
    Calls Try.prog 55 #[.agg #[.int .i64 f, .int .i64 sf, .int .u64 sh, .int .u64 sl, .int .i64 df, .int .u64 dh, .int .u64 dl, .int .i64 pr, .int .i64 ho, .bool fg, .int .u32 id, .int .i64 of, .bool mo, .slice xa xn xc, .slice (some ⟨bk, off, none⟩) l.length dc]] w (GotS w 6 zSg) := by
  obtain ⟨W1, hW1⟩ : ∃ W1, w.alloc (.cells #[.int .i64 f, .int .i64 sf, .int .u64 sh, .int .u64 sl, .int .i64 df, .int .u64 dh, .int .u64 dl, .int .i64 pr, .int .i64 ho, .bool fg, .int .u32 id, .int .i64 of, .bool mo, .slice xa xn xc, .slice (some ⟨bk, off, none⟩) l.length dc] 64) = W1 := ⟨_, rfl⟩
  obtain ⟨W2, hW2⟩ : ∃ W2, W1.alloc (.cells #[.int .i64 0, .int .i64 0, .int .i64 0, .int .u64 0, .int .u64 0, .int .i64 0, .int .u64 0, .int .u64 0, .int .i64 0, .int .i64 0, .int .i64 0, .int .u32 0, .int .u32 0, .int .i64 0, .int .i64 0, .int .i64 0, .bool false, .int .i64 0, .int .i64 0, .int .i64 0, .int .u64 0, .int .u64 0, .int .i64 0, .int .u64 0, .int .u64 0, .int .i64 0, .int .i64 0, .slice none 0 0] 38) = W2 := ⟨_, rfl⟩
  have b1 : Below w.heap.size w W1 := by rw [← hW1]; exact (Below.refl _ _).alloc (Nat.le_refl _) _
  have b2 : Below w.heap.size w W2 := by rw [← hW2]; exact b1.alloc b1.size _
  have B1' : Blk W1 w.heap.size 64 #[.int .i64 f, .int .i64 sf, .int .u64 sh, .int .u64 sl, .int .i64 df, .int .u64 dh, .int .u64 dl, .int .i64 pr, .int .i64 ho, .bool fg, .int .u32 id, .int .i64 of, .bool mo, .slice xa xn xc, .slice (some ⟨bk, off, none⟩) l.length dc] := by rw [← hW1]; exact blk_new _ _ _
  have B1 : Blk W2 w.heap.size 64 #[.int .i64 f, .int .i64 sf, .int .u64 sh, .int .u64 sl, .int .i64 df, .int .u64 dh, .int .u64 dl, .int .i64 pr, .int .i64 ho, .bool fg, .int .u32 id, .int .i64 of, .bool mo, .slice xa xn xc, .slice (some ⟨bk, off, none⟩) l.length dc] := by rw [← hW2]; exact B1'.alloc _
  have B2 : Blk W2 W1.heap.size 38 #[.int .i64 0, .int .i64 0, .int .i64 0, .int .u64 0, .int .u64 0, .int .i64 0, .int .u64 0, .int .u64 0, .int .i64 0, .int .i64 0, .int .i64 0, .int .u32 0, .int .u32 0, .int .i64 0, .int .i64 0, .int .i64 0, .bool false, .int .i64 0, .int .i64 0, .int .i64 0, .int .u64 0, .int .u64 0, .int .i64 0, .int .u64 0, .int .u64 0, .int .i64 0, .int .i64 0, .slice none 0 0] := by rw [← hW2]; exact blk_new _ _ _
  have g1 : w.heap.size < W1.heap.size := B1'.lt
  clear B1'
  have d0 := B1.cell 0 (.int .i64 f) rfl
  have d14 := B1.cell 14 (.slice (some ⟨bk, off, none⟩) l.length dc) rfl
  have h20' : ¬ (l.length : Int) < 20 := by omega
  obtain ⟨x12, e12⟩ : ∃ x, l.getD 12 0 = x := ⟨_, rfl⟩
  obtain ⟨x13, e13⟩ : ∃ x, l.getD 13 0 = x := ⟨_, rfl⟩
  have q12 := h.bytes.get 12
  have q13 := h.bytes.get 13
  obtain ⟨bk', off', ee, hcl⟩ := h.cells (by omega)
  cases ee
  have y12 := kept (b := bk) (o := off + 12) b2 (hcl 12 (by omega))
  have y13 := kept (b := bk) (o := off + 13) b2 (hcl 13 (by omega))
  rw [e12] at y12 q12
  rw [e13] at y13 q13
  clear hcl
  have i12 : (12 : Int) < (l.length : Int) := by omega
  have i13 : (13 : Int) < (l.length : Int) := by omega
  have wx12 : IntKind.i64.wrap (x12 / 16) = x12 / 16 := wraps_i64 _ (by omega) (by omega)
  have wm12 : IntKind.i64.wrap (x12 / 16 * 4) = x12 / 16 * 4 := wraps_i64 _ (by omega) (by omega)
  have wx13 : IntKind.i64.wrap x13 = x13 := wraps_i64 _ (by omega) (by omega)
  obtain ⟨H, hH⟩ : ∃ H, x12 / 16 * 4 = H := ⟨_, rfl⟩
  obtain ⟨FL, hF⟩ : ∃ F, bits .and .i64 x13 63 = F := ⟨_, rfl⟩
  have wH : IntKind.i64.wrap H = H := by rw [← hH]; exact wm12
  have eH : tcpH l = H := by unfold tcpH; rw [e12, hH]
  have eF : tcpF l = FL := by unfold tcpF; rw [e13, hF]
  rw [eH] at h4 h5
  clear eH eF e12 e13
  have KS : Hid (∀ W, Row W (some ⟨bk, off, none⟩) l → Calls Try.prog 67 #[.agg #[.int .i64 f, .int .i64 sf, .int .u64 sh, .int .u64 sl, .int .i64 df, .int .u64 dh, .int .u64 dl, .int .i64 pr, .int .i64 ho, .bool fg, .int .u32 id, .int .i64 of, .bool mo, .slice xa xn xc, .slice (some ⟨bk, off, none⟩) l.length dc], .slice (some ⟨bk, off, none⟩) l.length dc] W fun e w' => e = .returned (.bool false) ∧ Below W.heap.size W w') := fun W hW => by
    have := sumsUp_any f sf sh sl df dh dl pr ho fg id of mo xa xn xc (some ⟨bk, off, none⟩) dc l (some ⟨bk, off, none⟩) dc l W hW hs hd
    rw [hsum] at this
    exact this
  clear hsum
  go_enter Try.func55, Try.ntmps55
  go_wp2_with fail
  refine wp_region_noPanic ?_
  refine wp_region_held_drew (S := fun w' => w'.cell? ⟨bk, off + 12, none⟩ = some (.int .u8 x12) ∧ w'.cell? ⟨bk, off + 13, none⟩ = some (.int .u8 x13)) (by kernel_rfl) (by exact ⟨y12, y13⟩) (fun hHeld => ?_)
  refine wpAnyH_take (i := 0) (oi := { dst := some 17, op := Op.move (.tmp 4), type := 28, pos := "parse.go:42", after := #[], guard := none }) (v := (.slice (some ⟨bk, off, none⟩) l.length dc)) rfl (by kernel_rfl) (by kernel_rfl) (by kernel_rfl) (fun _ _ _ h => h) (Or.inl ⟨by rfl, ?_⟩) hHeld ?_
  · intro w9 hSw
    try dsimp only at hSw
    go_simp
  try simp only [Act.put, List.setIfInBounds_toArray, List.set_cons_zero, List.set_cons_succ]
  refine wpAnyH_take (i := 1) (oi := { dst := some 18, op := Op.indexAddr 28 (.tmp 17) (.const (.int .i64 12)), type := 0, pos := "parse.go:42", after := #[{ on := 0, ground := Ground.data }], guard := none }) (v := (.pointer (some ⟨bk, off + 12, none⟩))) rfl (by kernel_rfl) (by kernel_rfl) (by kernel_rfl) (fun _ _ _ h => h) (Or.inl ⟨by rfl, ?_⟩) hHeld ?_
  · intro w9 hSw
    try dsimp only at hSw
    go_simp
  try simp only [Act.put, List.setIfInBounds_toArray, List.set_cons_zero, List.set_cons_succ]
  refine wpAnyH_take (i := 2) (oi := { dst := some 19, op := Op.load 5 (.tmp 18), type := 5, pos := "parse.go:42", after := #[{ on := 1, ground := Ground.data }], guard := none }) (v := (.int .u8 x12)) rfl (by kernel_rfl) (by kernel_rfl) (by kernel_rfl) (fun _ _ _ h => h) (Or.inl ⟨by rfl, ?_⟩) hHeld ?_
  · intro w9 hSw
    try dsimp only at hSw
    go_simp
  try simp only [Act.put, List.setIfInBounds_toArray, List.set_cons_zero, List.set_cons_succ]
  refine wpAnyH_take (i := 3) (oi := { dst := some 20, op := Op.binOp BinOp.shr 5 (.tmp 19) (.const (.int .u64 4)) 72, type := 5, pos := "parse.go:42", after := #[{ on := 2, ground := Ground.data }], guard := none }) (v := (.int .u8 (x12 / 16))) rfl (by kernel_rfl) (by kernel_rfl) (by kernel_rfl) (fun _ _ _ h => h) (Or.inl ⟨by rfl, ?_⟩) hHeld ?_
  · intro w9 hSw
    try dsimp only at hSw
    go_simp
  try simp only [Act.put, List.setIfInBounds_toArray, List.set_cons_zero, List.set_cons_succ]
  refine wpAnyH_take (i := 4) (oi := { dst := some 21, op := Op.convert 5 3 (.tmp 20), type := 3, pos := "parse.go:42", after := #[{ on := 3, ground := Ground.data }], guard := none }) (v := (.int .i64 (x12 / 16))) rfl (by kernel_rfl) (by kernel_rfl) (by kernel_rfl) (fun _ _ _ h => h) (Or.inl ⟨by rfl, ?_⟩) hHeld ?_
  · intro w9 hSw
    try dsimp only at hSw
    go_simp
  try simp only [Act.put, List.setIfInBounds_toArray, List.set_cons_zero, List.set_cons_succ]
  refine wpAnyH_take (i := 5) (oi := { dst := some 22, op := Op.binOp BinOp.mul 3 (.tmp 21) (.const (.int .i64 4)) 3, type := 3, pos := "parse.go:42", after := #[{ on := 4, ground := Ground.data }], guard := none }) (v := (.int .i64 H)) rfl (by kernel_rfl) (by kernel_rfl) (by kernel_rfl) (fun _ _ _ h => h) (Or.inl ⟨by rfl, ?_⟩) hHeld ?_
  · intro w9 hSw
    try dsimp only at hSw
    go_simp
    try exact hH
  try simp only [Act.put, List.setIfInBounds_toArray, List.set_cons_zero, List.set_cons_succ]
  refine wpAnyH_take (i := 6) (oi := { dst := some 23, op := Op.move (.tmp 4), type := 28, pos := "parse.go:42", after := #[{ on := 11, ground := Ground.gcOnly Departure.lateStores }], guard := none }) (v := (.slice (some ⟨bk, off, none⟩) l.length dc)) rfl (by kernel_rfl) (by kernel_rfl) (by kernel_rfl) (fun _ _ _ h => h) (Or.inl ⟨by rfl, ?_⟩) hHeld ?_
  · intro w9 hSw
    try dsimp only at hSw
    go_simp
  try simp only [Act.put, List.setIfInBounds_toArray, List.set_cons_zero, List.set_cons_succ]
  refine wpAnyH_take (i := 7) (oi := { dst := some 24, op := Op.indexAddr 28 (.tmp 23) (.const (.int .i64 13)), type := 0, pos := "parse.go:42", after := #[{ on := 6, ground := Ground.data }, { on := 11, ground := Ground.gcOnly Departure.lateStores }], guard := none }) (v := (.pointer (some ⟨bk, off + 13, none⟩))) rfl (by kernel_rfl) (by kernel_rfl) (by kernel_rfl) (fun _ _ _ h => h) (Or.inl ⟨by rfl, ?_⟩) hHeld ?_
  · intro w9 hSw
    try dsimp only at hSw
    go_simp
  try simp only [Act.put, List.setIfInBounds_toArray, List.set_cons_zero, List.set_cons_succ]
  refine wpAnyH_take (i := 8) (oi := { dst := some 25, op := Op.load 5 (.tmp 24), type := 5, pos := "parse.go:42", after := #[{ on := 7, ground := Ground.data }, { on := 11, ground := Ground.gcOnly Departure.lateStores }], guard := none }) (v := (.int .u8 x13)) rfl (by kernel_rfl) (by kernel_rfl) (by kernel_rfl) (fun _ _ _ h => h) (Or.inl ⟨by rfl, ?_⟩) hHeld ?_
  · intro w9 hSw
    try dsimp only at hSw
    go_simp
  try simp only [Act.put, List.setIfInBounds_toArray, List.set_cons_zero, List.set_cons_succ]
  refine wpAnyH_take (i := 9) (oi := { dst := some 26, op := Op.convert 5 3 (.tmp 25), type := 3, pos := "parse.go:42", after := #[{ on := 8, ground := Ground.data }, { on := 11, ground := Ground.gcOnly Departure.lateStores }], guard := none }) (v := (.int .i64 x13)) rfl (by kernel_rfl) (by kernel_rfl) (by kernel_rfl) (fun _ _ _ h => h) (Or.inl ⟨by rfl, ?_⟩) hHeld ?_
  · intro w9 hSw
    try dsimp only at hSw
    go_simp
  try simp only [Act.put, List.setIfInBounds_toArray, List.set_cons_zero, List.set_cons_succ]
  refine wpAnyH_take (i := 10) (oi := { dst := some 27, op := Op.binOp BinOp.and 3 (.tmp 26) (.const (.int .i64 63)) 3, type := 3, pos := "parse.go:42", after := #[{ on := 9, ground := Ground.data }, { on := 11, ground := Ground.gcOnly Departure.lateStores }], guard := none }) (v := (.int .i64 FL)) rfl (by kernel_rfl) (by kernel_rfl) (by kernel_rfl) (fun _ _ _ h => h) (Or.inl ⟨by rfl, ?_⟩) hHeld ?_
  · intro w9 hSw
    try dsimp only at hSw
    go_simp
    try exact hF
  try simp only [Act.put, List.setIfInBounds_toArray, List.set_cons_zero, List.set_cons_succ]
  refine wpAnyH_take (i := 11) (oi := { dst := some 5, op := Op.assign (.tmp 22), type := 3, pos := "parse.go:42", after := #[{ on := 5, ground := Ground.data }, { on := 0, ground := Ground.phase }, { on := 1, ground := Ground.phase }, { on := 2, ground := Ground.phase }, { on := 3, ground := Ground.phase }, { on := 4, ground := Ground.phase }, { on := 5, ground := Ground.phase }, { on := 6, ground := Ground.textOnly Departure.lateStores }, { on := 7, ground := Ground.textOnly Departure.lateStores }, { on := 8, ground := Ground.textOnly Departure.lateStores }, { on := 9, ground := Ground.textOnly Departure.lateStores }, { on := 10, ground := Ground.textOnly Departure.lateStores }], guard := none }) (v := (.int .i64 H)) rfl (by kernel_rfl) (by kernel_rfl) (by kernel_rfl) (fun _ _ _ h => h) (Or.inl ⟨by rfl, ?_⟩) hHeld ?_
  · intro w9 hSw
    try dsimp only at hSw
    go_simp
  try simp only [Act.put, List.setIfInBounds_toArray, List.set_cons_zero, List.set_cons_succ]
  refine wpAnyH_take (i := 12) (oi := { dst := some 6, op := Op.assign (.tmp 27), type := 3, pos := "parse.go:42", after := #[{ on := 10, ground := Ground.data }, { on := 11, ground := Ground.chain }, { on := 0, ground := Ground.phase }, { on := 1, ground := Ground.phase }, { on := 2, ground := Ground.phase }, { on := 3, ground := Ground.phase }, { on := 4, ground := Ground.phase }, { on := 5, ground := Ground.phase }, { on := 6, ground := Ground.phase }, { on := 7, ground := Ground.phase }, { on := 8, ground := Ground.phase }, { on := 9, ground := Ground.phase }, { on := 10, ground := Ground.phase }, { on := 11, ground := Ground.phase }], guard := none }) (v := (.int .i64 FL)) rfl (by kernel_rfl) (by kernel_rfl) (by kernel_rfl) (fun _ _ _ h => h) (Or.inl ⟨by rfl, ?_⟩) hHeld ?_
  · intro w9 hSw
    try dsimp only at hSw
    go_simp
  try simp only [Act.put, List.setIfInBounds_toArray, List.set_cons_zero, List.set_cons_succ]
  refine wpAnyH_done (by kernel_rfl) ?_ _
  refine NoPanic.normal ?_
  replace B1 := B1.drew
  replace B2 := B2.drew
  replace b2 := b2.drew
  clear hW1 hW2 y12 y13 d0 d14 hHeld hH hF wx12 wm12 wx13 wH i12 i13
  generalize W2.drew = W3 at *
  have r3 := h.below b2
  go_wp2_with (refine wpList_load_row rfl _ _ rfl w.heap.size (by rfl) _ _ _ _ B1 Try.underlying64 rfl (by kernel_rfl) ?_)
  refine Calls.mono (KS.out _ r3) ?_
  rintro e W4 ⟨rfl, bb⟩
  have b4 : Below w.heap.size w W4 := b2.trans (bb.mono b2.size)
  have B4 := B1.kept bb
  have B4' := B2.kept bb
  clear KS bb B1 B2 b2 r3
  have hbz : (Instr.build 38 #[]).run Try.prog W4 = .ok (.agg #[.int .i64 0, .int .i64 0, .int .i64 0, .int .u64 0, .int .u64 0, .int .i64 0, .int .u64 0, .int .u64 0, .int .i64 0, .int .i64 0, .int .i64 0, .int .u32 0, .int .u32 0, .int .i64 0, .int .i64 0, .int .i64 0, .bool false, .int .i64 0, .int .i64 0, .int .i64 0, .int .u64 0, .int .u64 0, .int .i64 0, .int .u64 0, .int .u64 0, .int .i64 0, .int .i64 0, .slice none 0 0]) W4 := by kernel_rfl
  have Bf := B4'.set #[.int .i64 0, .int .i64 0, .int .i64 0, .int .u64 0, .int .u64 0, .int .i64 0, .int .u64 0, .int .u64 0, .int .i64 0, .int .i64 0, .int .i64 0, .int .u32 0, .int .u32 0, .int .i64 0, .int .i64 0, .int .i64 0, .bool false, .int .i64 0, .int .i64 0, .int .i64 0, .int .u64 0, .int .u64 0, .int .i64 0, .int .u64 0, .int .u64 0, .int .i64 0, .int .i64 0, .slice none 0 0]
  have bf := below_setRow b4 (Nat.le_of_lt g1) #[.int .i64 0, .int .i64 0, .int .i64 0, .int .u64 0, .int .u64 0, .int .i64 0, .int .u64 0, .int .u64 0, .int .i64 0, .int .i64 0, .int .i64 0, .int .u32 0, .int .u32 0, .int .i64 0, .int .i64 0, .int .i64 0, .bool false, .int .i64 0, .int .i64 0, .int .i64 0, .int .u64 0, .int .u64 0, .int .i64 0, .int .u64 0, .int .u64 0, .int .i64 0, .int .i64 0, .slice none 0 0]
  go_wp2_with (first
    | (refine wpList_build _ rfl _ _ rfl _ (by rfl) _ hbz ?_)
    | (refine wpList_store_row rfl _ _ _ rfl W1.heap.size #[.int .i64 0, .int .i64 0, .int .i64 0, .int .u64 0, .int .u64 0, .int .i64 0, .int .u64 0, .int .u64 0, .int .i64 0, .int .i64 0, .int .i64 0, .int .u32 0, .int .u32 0, .int .i64 0, .int .i64 0, .int .i64 0, .bool false, .int .i64 0, .int .i64 0, .int .i64 0, .int .u64 0, .int .u64 0, .int .i64 0, .int .u64 0, .int .u64 0, .int .i64 0, .int .i64 0, .slice none 0 0] (by rfl) (by rfl) _ _ B4' (by kernel_rfl) (by rfl) (by kernel_rfl) ?_))
  exact ret_cell_tmp (k := 2) (j := 3) Try.f55 (by kernel_rfl) Bf Try.underlying38 (by kernel_rfl) (by rfl) (by rfl) rfl ⟨none, 0, rfl, fresh_nil bf⟩

set_option maxRecDepth 100000 in
set_option maxHeartbeats 4000000 in
theorem tcp_e10 (f sf sh sl df dh dl pr ho : Int) (fg : Bool) (id of : Int) (mo : Bool) (xa : Option Addr) (xn xc : Nat) (bk off dc : Nat) (l : List Int) (w : World) (h : Row w (some ⟨bk, off, none⟩) l) (hc : l.length ≤ dc) (hcm : dc ≤ 9223372036854775807) (hs : Ad.ok ⟨sf, sh, sl⟩) (hd : Ad.ok ⟨df, dh, dl⟩) (h20 : ¬ l.length < 20) (h4 : ¬ tcpH l < 20) (h5 : ¬ tcpH l > (l.length : Int)) (hsum : sumsB ⟨sf, sh, sl⟩ ⟨df, dh, dl⟩ pr l = true) (hfl : flagsB (tcpF l) = false) :
    Calls Try.prog 55 #[.agg #[.int .i64 f, .int .i64 sf, .int .u64 sh, .int .u64 sl, .int .i64 df, .int .u64 dh, .int .u64 dl, .int .i64 pr, .int .i64 ho, .bool fg, .int .u32 id, .int .i64 of, .bool mo, .slice xa xn xc, .slice (some ⟨bk, off, none⟩) l.length dc]] w (GotS w 10 zSg) := by
  obtain ⟨W1, hW1⟩ : ∃ W1, w.alloc (.cells #[.int .i64 f, .int .i64 sf, .int .u64 sh, .int .u64 sl, .int .i64 df, .int .u64 dh, .int .u64 dl, .int .i64 pr, .int .i64 ho, .bool fg, .int .u32 id, .int .i64 of, .bool mo, .slice xa xn xc, .slice (some ⟨bk, off, none⟩) l.length dc] 64) = W1 := ⟨_, rfl⟩
  obtain ⟨W2, hW2⟩ : ∃ W2, W1.alloc (.cells #[.int .i64 0, .int .i64 0, .int .i64 0, .int .u64 0, .int .u64 0, .int .i64 0, .int .u64 0, .int .u64 0, .int .i64 0, .int .i64 0, .int .i64 0, .int .u32 0, .int .u32 0, .int .i64 0, .int .i64 0, .int .i64 0, .bool false, .int .i64 0, .int .i64 0, .int .i64 0, .int .u64 0, .int .u64 0, .int .i64 0, .int .u64 0, .int .u64 0, .int .i64 0, .int .i64 0, .slice none 0 0] 38) = W2 := ⟨_, rfl⟩
  have b1 : Below w.heap.size w W1 := by rw [← hW1]; exact (Below.refl _ _).alloc (Nat.le_refl _) _
  have b2 : Below w.heap.size w W2 := by rw [← hW2]; exact b1.alloc b1.size _
  have B1' : Blk W1 w.heap.size 64 #[.int .i64 f, .int .i64 sf, .int .u64 sh, .int .u64 sl, .int .i64 df, .int .u64 dh, .int .u64 dl, .int .i64 pr, .int .i64 ho, .bool fg, .int .u32 id, .int .i64 of, .bool mo, .slice xa xn xc, .slice (some ⟨bk, off, none⟩) l.length dc] := by rw [← hW1]; exact blk_new _ _ _
  have B1 : Blk W2 w.heap.size 64 #[.int .i64 f, .int .i64 sf, .int .u64 sh, .int .u64 sl, .int .i64 df, .int .u64 dh, .int .u64 dl, .int .i64 pr, .int .i64 ho, .bool fg, .int .u32 id, .int .i64 of, .bool mo, .slice xa xn xc, .slice (some ⟨bk, off, none⟩) l.length dc] := by rw [← hW2]; exact B1'.alloc _
  have B2 : Blk W2 W1.heap.size 38 #[.int .i64 0, .int .i64 0, .int .i64 0, .int .u64 0, .int .u64 0, .int .i64 0, .int .u64 0, .int .u64 0, .int .i64 0, .int .i64 0, .int .i64 0, .int .u32 0, .int .u32 0, .int .i64 0, .int .i64 0, .int .i64 0, .bool false, .int .i64 0, .int .i64 0, .int .i64 0, .int .u64 0, .int .u64 0, .int .i64 0, .int .u64 0, .int .u64 0, .int .i64 0, .int .i64 0, .slice none 0 0] := by rw [← hW2]; exact blk_new _ _ _
  have g1 : w.heap.size < W1.heap.size := B1'.lt
  clear B1'
  have d0 := B1.cell 0 (.int .i64 f) rfl
  have d14 := B1.cell 14 (.slice (some ⟨bk, off, none⟩) l.length dc) rfl
  have h20' : ¬ (l.length : Int) < 20 := by omega
  obtain ⟨x12, e12⟩ : ∃ x, l.getD 12 0 = x := ⟨_, rfl⟩
  obtain ⟨x13, e13⟩ : ∃ x, l.getD 13 0 = x := ⟨_, rfl⟩
  have q12 := h.bytes.get 12
  have q13 := h.bytes.get 13
  obtain ⟨bk', off', ee, hcl⟩ := h.cells (by omega)
  cases ee
  have y12 := kept (b := bk) (o := off + 12) b2 (hcl 12 (by omega))
  have y13 := kept (b := bk) (o := off + 13) b2 (hcl 13 (by omega))
  rw [e12] at y12 q12
  rw [e13] at y13 q13
  clear hcl
  have i12 : (12 : Int) < (l.length : Int) := by omega
  have i13 : (13 : Int) < (l.length : Int) := by omega
  have wx12 : IntKind.i64.wrap (x12 / 16) = x12 / 16 := wraps_i64 _ (by omega) (by omega)
  have wm12 : IntKind.i64.wrap (x12 / 16 * 4) = x12 / 16 * 4 := wraps_i64 _ (by omega) (by omega)
  have wx13 : IntKind.i64.wrap x13 = x13 := wraps_i64 _ (by omega) (by omega)
  obtain ⟨H, hH⟩ : ∃ H, x12 / 16 * 4 = H := ⟨_, rfl⟩
  obtain ⟨FL, hF⟩ : ∃ F, bits .and .i64 x13 63 = F := ⟨_, rfl⟩
  have wH : IntKind.i64.wrap H = H := by rw [← hH]; exact wm12
  have eH : tcpH l = H := by unfold tcpH; rw [e12, hH]
  have eF : tcpF l = FL := by unfold tcpF; rw [e13, hF]
  rw [eH] at h4 h5
  rw [eF] at hfl
  clear eH eF e12 e13
  have KS : Hid (∀ W, Row W (some ⟨bk, off, none⟩) l → Calls Try.prog 67 #[.agg #[.int .i64 f, .int .i64 sf, .int .u64 sh, .int .u64 sl, .int .i64 df, .int .u64 dh, .int .u64 dl, .int .i64 pr, .int .i64 ho, .bool fg, .int .u32 id, .int .i64 of, .bool mo, .slice xa xn xc, .slice (some ⟨bk, off, none⟩) l.length dc], .slice (some ⟨bk, off, none⟩) l.length dc] W fun e w' => e = .returned (.bool true) ∧ Below W.heap.size W w') := fun W hW => by
    have := sumsUp_any f sf sh sl df dh dl pr ho fg id of mo xa xn xc (some ⟨bk, off, none⟩) dc l (some ⟨bk, off, none⟩) dc l W hW hs hd
    rw [hsum] at this
    exact this
  have KF : Hid (∀ W, Calls Try.prog 68 #[.int .i64 FL] W fun e w' => e = .returned (.bool false) ∧ w' = W) := fun W => by
    have := rightFlags_any FL W
    rw [hfl] at this
    exact this
  clear hsum hfl
  go_enter Try.func55, Try.ntmps55
  go_wp2_with fail
  refine wp_region_noPanic ?_
  refine wp_region_held_drew (S := fun w' => w'.cell? ⟨bk, off + 12, none⟩ = some (.int .u8 x12) ∧ w'.cell? ⟨bk, off + 13, none⟩ = some (.int .u8 x13)) (by kernel_rfl) (by exact ⟨y12, y13⟩) (fun hHeld => ?_)
  refine wpAnyH_take (i := 0) (oi := { dst := some 17, op := Op.move (.tmp 4), type := 28, pos := "parse.go:42", after := #[], guard := none }) (v := (.slice (some ⟨bk, off, none⟩) l.length dc)) rfl (by kernel_rfl) (by kernel_rfl) (by kernel_rfl) (fun _ _ _ h => h) (Or.inl ⟨by rfl, ?_⟩) hHeld ?_
  · intro w9 hSw
    try dsimp only at hSw
    go_simp
  try simp only [Act.put, List.setIfInBounds_toArray, List.set_cons_zero, List.set_cons_succ]
  refine wpAnyH_take (i := 1) (oi := { dst := some 18, op := Op.indexAddr 28 (.tmp 17) (.const (.int .i64 12)), type := 0, pos := "parse.go:42", after := #[{ on := 0, ground := Ground.data }], guard := none }) (v := (.pointer (some ⟨bk, off + 12, none⟩))) rfl (by kernel_rfl) (by kernel_rfl) (by kernel_rfl) (fun _ _ _ h => h) (Or.inl ⟨by rfl, ?_⟩) hHeld ?_
  · intro w9 hSw
    try dsimp only at hSw
    go_simp
  try simp only [Act.put, List.setIfInBounds_toArray, List.set_cons_zero, List.set_cons_succ]
  refine wpAnyH_take (i := 2) (oi := { dst := some 19, op := Op.load 5 (.tmp 18), type := 5, pos := "parse.go:42", after := #[{ on := 1, ground := Ground.data }], guard := none }) (v := (.int .u8 x12)) rfl (by kernel_rfl) (by kernel_rfl) (by kernel_rfl) (fun _ _ _ h => h) (Or.inl ⟨by rfl, ?_⟩) hHeld ?_
  · intro w9 hSw
    try dsimp only at hSw
    go_simp
  try simp only [Act.put, List.setIfInBounds_toArray, List.set_cons_zero, List.set_cons_succ]
  refine wpAnyH_take (i := 3) (oi := { dst := some 20, op := Op.binOp BinOp.shr 5 (.tmp 19) (.const (.int .u64 4)) 72, type := 5, pos := "parse.go:42", after := #[{ on := 2, ground := Ground.data }], guard := none }) (v := (.int .u8 (x12 / 16))) rfl (by kernel_rfl) (by kernel_rfl) (by kernel_rfl) (fun _ _ _ h => h) (Or.inl ⟨by rfl, ?_⟩) hHeld ?_
  · intro w9 hSw
    try dsimp only at hSw
    go_simp
  try simp only [Act.put, List.setIfInBounds_toArray, List.set_cons_zero, List.set_cons_succ]
  refine wpAnyH_take (i := 4) (oi := { dst := some 21, op := Op.convert 5 3 (.tmp 20), type := 3, pos := "parse.go:42", after := #[{ on := 3, ground := Ground.data }], guard := none }) (v := (.int .i64 (x12 / 16))) rfl (by kernel_rfl) (by kernel_rfl) (by kernel_rfl) (fun _ _ _ h => h) (Or.inl ⟨by rfl, ?_⟩) hHeld ?_
  · intro w9 hSw
    try dsimp only at hSw
    go_simp
  try simp only [Act.put, List.setIfInBounds_toArray, List.set_cons_zero, List.set_cons_succ]
  refine wpAnyH_take (i := 5) (oi := { dst := some 22, op := Op.binOp BinOp.mul 3 (.tmp 21) (.const (.int .i64 4)) 3, type := 3, pos := "parse.go:42", after := #[{ on := 4, ground := Ground.data }], guard := none }) (v := (.int .i64 H)) rfl (by kernel_rfl) (by kernel_rfl) (by kernel_rfl) (fun _ _ _ h => h) (Or.inl ⟨by rfl, ?_⟩) hHeld ?_
  · intro w9 hSw
    try dsimp only at hSw
    go_simp
    try exact hH
  try simp only [Act.put, List.setIfInBounds_toArray, List.set_cons_zero, List.set_cons_succ]
  refine wpAnyH_take (i := 6) (oi := { dst := some 23, op := Op.move (.tmp 4), type := 28, pos := "parse.go:42", after := #[{ on := 11, ground := Ground.gcOnly Departure.lateStores }], guard := none }) (v := (.slice (some ⟨bk, off, none⟩) l.length dc)) rfl (by kernel_rfl) (by kernel_rfl) (by kernel_rfl) (fun _ _ _ h => h) (Or.inl ⟨by rfl, ?_⟩) hHeld ?_
  · intro w9 hSw
    try dsimp only at hSw
    go_simp
  try simp only [Act.put, List.setIfInBounds_toArray, List.set_cons_zero, List.set_cons_succ]
  refine wpAnyH_take (i := 7) (oi := { dst := some 24, op := Op.indexAddr 28 (.tmp 23) (.const (.int .i64 13)), type := 0, pos := "parse.go:42", after := #[{ on := 6, ground := Ground.data }, { on := 11, ground := Ground.gcOnly Departure.lateStores }], guard := none }) (v := (.pointer (some ⟨bk, off + 13, none⟩))) rfl (by kernel_rfl) (by kernel_rfl) (by kernel_rfl) (fun _ _ _ h => h) (Or.inl ⟨by rfl, ?_⟩) hHeld ?_
  · intro w9 hSw
    try dsimp only at hSw
    go_simp
  try simp only [Act.put, List.setIfInBounds_toArray, List.set_cons_zero, List.set_cons_succ]
  refine wpAnyH_take (i := 8) (oi := { dst := some 25, op := Op.load 5 (.tmp 24), type := 5, pos := "parse.go:42", after := #[{ on := 7, ground := Ground.data }, { on := 11, ground := Ground.gcOnly Departure.lateStores }], guard := none }) (v := (.int .u8 x13)) rfl (by kernel_rfl) (by kernel_rfl) (by kernel_rfl) (fun _ _ _ h => h) (Or.inl ⟨by rfl, ?_⟩) hHeld ?_
  · intro w9 hSw
    try dsimp only at hSw
    go_simp
  try simp only [Act.put, List.setIfInBounds_toArray, List.set_cons_zero, List.set_cons_succ]
  refine wpAnyH_take (i := 9) (oi := { dst := some 26, op := Op.convert 5 3 (.tmp 25), type := 3, pos := "parse.go:42", after := #[{ on := 8, ground := Ground.data }, { on := 11, ground := Ground.gcOnly Departure.lateStores }], guard := none }) (v := (.int .i64 x13)) rfl (by kernel_rfl) (by kernel_rfl) (by kernel_rfl) (fun _ _ _ h => h) (Or.inl ⟨by rfl, ?_⟩) hHeld ?_
  · intro w9 hSw
    try dsimp only at hSw
    go_simp
  try simp only [Act.put, List.setIfInBounds_toArray, List.set_cons_zero, List.set_cons_succ]
  refine wpAnyH_take (i := 10) (oi := { dst := some 27, op := Op.binOp BinOp.and 3 (.tmp 26) (.const (.int .i64 63)) 3, type := 3, pos := "parse.go:42", after := #[{ on := 9, ground := Ground.data }, { on := 11, ground := Ground.gcOnly Departure.lateStores }], guard := none }) (v := (.int .i64 FL)) rfl (by kernel_rfl) (by kernel_rfl) (by kernel_rfl) (fun _ _ _ h => h) (Or.inl ⟨by rfl, ?_⟩) hHeld ?_
  · intro w9 hSw
    try dsimp only at hSw
    go_simp
    try exact hF
  try simp only [Act.put, List.setIfInBounds_toArray, List.set_cons_zero, List.set_cons_succ]
  refine wpAnyH_take (i := 11) (oi := { dst := some 5, op := Op.assign (.tmp 22), type := 3, pos := "parse.go:42", after := #[{ on := 5, ground := Ground.data }, { on := 0, ground := Ground.phase }, { on := 1, ground := Ground.phase }, { on := 2, ground := Ground.phase }, { on := 3, ground := Ground.phase }, { on := 4, ground := Ground.phase }, { on := 5, ground := Ground.phase }, { on := 6, ground := Ground.textOnly Departure.lateStores }, { on := 7, ground := Ground.textOnly Departure.lateStores }, { on := 8, ground := Ground.textOnly Departure.lateStores }, { on := 9, ground := Ground.textOnly Departure.lateStores }, { on := 10, ground := Ground.textOnly Departure.lateStores }], guard := none }) (v := (.int .i64 H)) rfl (by kernel_rfl) (by kernel_rfl) (by kernel_rfl) (fun _ _ _ h => h) (Or.inl ⟨by rfl, ?_⟩) hHeld ?_
  · intro w9 hSw
    try dsimp only at hSw
    go_simp
  try simp only [Act.put, List.setIfInBounds_toArray, List.set_cons_zero, List.set_cons_succ]
  refine wpAnyH_take (i := 12) (oi := { dst := some 6, op := Op.assign (.tmp 27), type := 3, pos := "parse.go:42", after := #[{ on := 10, ground := Ground.data }, { on := 11, ground := Ground.chain }, { on := 0, ground := Ground.phase }, { on := 1, ground := Ground.phase }, { on := 2, ground := Ground.phase }, { on := 3, ground := Ground.phase }, { on := 4, ground := Ground.phase }, { on := 5, ground := Ground.phase }, { on := 6, ground := Ground.phase }, { on := 7, ground := Ground.phase }, { on := 8, ground := Ground.phase }, { on := 9, ground := Ground.phase }, { on := 10, ground := Ground.phase }, { on := 11, ground := Ground.phase }], guard := none }) (v := (.int .i64 FL)) rfl (by kernel_rfl) (by kernel_rfl) (by kernel_rfl) (fun _ _ _ h => h) (Or.inl ⟨by rfl, ?_⟩) hHeld ?_
  · intro w9 hSw
    try dsimp only at hSw
    go_simp
  try simp only [Act.put, List.setIfInBounds_toArray, List.set_cons_zero, List.set_cons_succ]
  refine wpAnyH_done (by kernel_rfl) ?_ _
  refine NoPanic.normal ?_
  replace B1 := B1.drew
  replace B2 := B2.drew
  replace b2 := b2.drew
  clear hW1 hW2 y12 y13 d0 d14 hHeld hH hF wx12 wm12 wx13 wH i12 i13
  generalize W2.drew = W3 at *
  have r3 := h.below b2
  go_wp2_with (refine wpList_load_row rfl _ _ rfl w.heap.size (by rfl) _ _ _ _ B1 Try.underlying64 rfl (by kernel_rfl) ?_)
  refine Calls.mono (KS.out _ r3) ?_
  rintro e W4 ⟨rfl, bb⟩
  have b4 : Below w.heap.size w W4 := b2.trans (bb.mono b2.size)
  have B4 := B1.kept bb
  have B4' := B2.kept bb
  clear KS bb B1 B2 b2 r3
  go_wp2_with fail
  refine Calls.mono (KF.out _) ?_
  rintro e W4x ⟨rfl, hW4x⟩
  subst hW4x
  clear KF
  have hbz : (Instr.build 38 #[]).run Try.prog W4x = .ok (.agg #[.int .i64 0, .int .i64 0, .int .i64 0, .int .u64 0, .int .u64 0, .int .i64 0, .int .u64 0, .int .u64 0, .int .i64 0, .int .i64 0, .int .i64 0, .int .u32 0, .int .u32 0, .int .i64 0, .int .i64 0, .int .i64 0, .bool false, .int .i64 0, .int .i64 0, .int .i64 0, .int .u64 0, .int .u64 0, .int .i64 0, .int .u64 0, .int .u64 0, .int .i64 0, .int .i64 0, .slice none 0 0]) W4x := by kernel_rfl
  have Bf := B4'.set #[.int .i64 0, .int .i64 0, .int .i64 0, .int .u64 0, .int .u64 0, .int .i64 0, .int .u64 0, .int .u64 0, .int .i64 0, .int .i64 0, .int .i64 0, .int .u32 0, .int .u32 0, .int .i64 0, .int .i64 0, .int .i64 0, .bool false, .int .i64 0, .int .i64 0, .int .i64 0, .int .u64 0, .int .u64 0, .int .i64 0, .int .u64 0, .int .u64 0, .int .i64 0, .int .i64 0, .slice none 0 0]
  have bf := below_setRow b4 (Nat.le_of_lt g1) #[.int .i64 0, .int .i64 0, .int .i64 0, .int .u64 0, .int .u64 0, .int .i64 0, .int .u64 0, .int .u64 0, .int .i64 0, .int .i64 0, .int .i64 0, .int .u32 0, .int .u32 0, .int .i64 0, .int .i64 0, .int .i64 0, .bool false, .int .i64 0, .int .i64 0, .int .i64 0, .int .u64 0, .int .u64 0, .int .i64 0, .int .u64 0, .int .u64 0, .int .i64 0, .int .i64 0, .slice none 0 0]
  go_wp2_with (first
    | (refine wpList_build _ rfl _ _ rfl _ (by rfl) _ hbz ?_)
    | (refine wpList_store_row rfl _ _ _ rfl W1.heap.size #[.int .i64 0, .int .i64 0, .int .i64 0, .int .u64 0, .int .u64 0, .int .i64 0, .int .u64 0, .int .u64 0, .int .i64 0, .int .i64 0, .int .i64 0, .int .u32 0, .int .u32 0, .int .i64 0, .int .i64 0, .int .i64 0, .bool false, .int .i64 0, .int .i64 0, .int .i64 0, .int .u64 0, .int .u64 0, .int .i64 0, .int .u64 0, .int .u64 0, .int .i64 0, .int .i64 0, .slice none 0 0] (by rfl) (by rfl) _ _ B4' (by kernel_rfl) (by rfl) (by kernel_rfl) ?_))
  exact ret_cell_tmp (k := 2) (j := 3) Try.f55 (by kernel_rfl) Bf Try.underlying38 (by kernel_rfl) (by rfl) (by rfl) rfl ⟨none, 0, rfl, fresh_nil bf⟩

set_option maxRecDepth 100000 in
set_option maxHeartbeats 4000000 in
theorem tcp_ok (f sf sh sl df dh dl pr ho : Int) (fg : Bool) (id of : Int) (mo : Bool) (xa : Option Addr) (xn xc : Nat) (bk off dc : Nat) (l : List Int) (w : World) (h : Row w (some ⟨bk, off, none⟩) l) (hc : l.length ≤ dc) (hcm : dc ≤ 9223372036854775807) (hs : Ad.ok ⟨sf, sh, sl⟩) (hd : Ad.ok ⟨df, dh, dl⟩) (h20 : ¬ l.length < 20) (h4 : ¬ tcpH l < 20) (h5 : ¬ tcpH l > (l.length : Int)) (hsum : sumsB ⟨sf, sh, sl⟩ ⟨df, dh, dl⟩ pr l = true) (hfl : flagsB (tcpF l) = true) :
    Calls Try.prog 55 #[.agg #[.int .i64 f, .int .i64 sf, .int .u64 sh, .int .u64 sl, .int .i64 df, .int .u64 dh, .int .u64 dl, .int .i64 pr, .int .i64 ho, .bool fg, .int .u32 id, .int .i64 of, .bool mo, .slice xa xn xc, .slice (some ⟨bk, off, none⟩) l.length dc]] w (GotS w 0 (tcpX f pr ⟨sf, sh, sl⟩ ⟨df, dh, dl⟩ l)) := by
  obtain ⟨W1, hW1⟩ : ∃ W1, w.alloc (.cells #[.int .i64 f, .int .i64 sf, .int .u64 sh, .int .u64 sl, .int .i64 df, .int .u64 dh, .int .u64 dl, .int .i64 pr, .int .i64 ho, .bool fg, .int .u32 id, .int .i64 of, .bool mo, .slice xa xn xc, .slice (some ⟨bk, off, none⟩) l.length dc] 64) = W1 := ⟨_, rfl⟩
  obtain ⟨W2, hW2⟩ : ∃ W2, W1.alloc (.cells #[.int .i64 0, .int .i64 0, .int .i64 0, .int .u64 0, .int .u64 0, .int .i64 0, .int .u64 0, .int .u64 0, .int .i64 0, .int .i64 0, .int .i64 0, .int .u32 0, .int .u32 0, .int .i64 0, .int .i64 0, .int .i64 0, .bool false, .int .i64 0, .int .i64 0, .int .i64 0, .int .u64 0, .int .u64 0, .int .i64 0, .int .u64 0, .int .u64 0, .int .i64 0, .int .i64 0, .slice none 0 0] 38) = W2 := ⟨_, rfl⟩
  have b1 : Below w.heap.size w W1 := by rw [← hW1]; exact (Below.refl _ _).alloc (Nat.le_refl _) _
  have b2 : Below w.heap.size w W2 := by rw [← hW2]; exact b1.alloc b1.size _
  have B1' : Blk W1 w.heap.size 64 #[.int .i64 f, .int .i64 sf, .int .u64 sh, .int .u64 sl, .int .i64 df, .int .u64 dh, .int .u64 dl, .int .i64 pr, .int .i64 ho, .bool fg, .int .u32 id, .int .i64 of, .bool mo, .slice xa xn xc, .slice (some ⟨bk, off, none⟩) l.length dc] := by rw [← hW1]; exact blk_new _ _ _
  have B1 : Blk W2 w.heap.size 64 #[.int .i64 f, .int .i64 sf, .int .u64 sh, .int .u64 sl, .int .i64 df, .int .u64 dh, .int .u64 dl, .int .i64 pr, .int .i64 ho, .bool fg, .int .u32 id, .int .i64 of, .bool mo, .slice xa xn xc, .slice (some ⟨bk, off, none⟩) l.length dc] := by rw [← hW2]; exact B1'.alloc _
  have B2 : Blk W2 W1.heap.size 38 #[.int .i64 0, .int .i64 0, .int .i64 0, .int .u64 0, .int .u64 0, .int .i64 0, .int .u64 0, .int .u64 0, .int .i64 0, .int .i64 0, .int .i64 0, .int .u32 0, .int .u32 0, .int .i64 0, .int .i64 0, .int .i64 0, .bool false, .int .i64 0, .int .i64 0, .int .i64 0, .int .u64 0, .int .u64 0, .int .i64 0, .int .u64 0, .int .u64 0, .int .i64 0, .int .i64 0, .slice none 0 0] := by rw [← hW2]; exact blk_new _ _ _
  have g1 : w.heap.size < W1.heap.size := B1'.lt
  clear B1'
  have d0 := B1.cell 0 (.int .i64 f) rfl
  have d14 := B1.cell 14 (.slice (some ⟨bk, off, none⟩) l.length dc) rfl
  have h20' : ¬ (l.length : Int) < 20 := by omega
  obtain ⟨x12, e12⟩ : ∃ x, l.getD 12 0 = x := ⟨_, rfl⟩
  obtain ⟨x13, e13⟩ : ∃ x, l.getD 13 0 = x := ⟨_, rfl⟩
  have q12 := h.bytes.get 12
  have q13 := h.bytes.get 13
  obtain ⟨bk', off', ee, hcl⟩ := h.cells (by omega)
  cases ee
  have y12 := kept (b := bk) (o := off + 12) b2 (hcl 12 (by omega))
  have y13 := kept (b := bk) (o := off + 13) b2 (hcl 13 (by omega))
  rw [e12] at y12 q12
  rw [e13] at y13 q13
  clear hcl
  have i12 : (12 : Int) < (l.length : Int) := by omega
  have i13 : (13 : Int) < (l.length : Int) := by omega
  have wx12 : IntKind.i64.wrap (x12 / 16) = x12 / 16 := wraps_i64 _ (by omega) (by omega)
  have wm12 : IntKind.i64.wrap (x12 / 16 * 4) = x12 / 16 * 4 := wraps_i64 _ (by omega) (by omega)
  have wx13 : IntKind.i64.wrap x13 = x13 := wraps_i64 _ (by omega) (by omega)
  obtain ⟨H, hH⟩ : ∃ H, x12 / 16 * 4 = H := ⟨_, rfl⟩
  obtain ⟨FL, hF⟩ : ∃ F, bits .and .i64 x13 63 = F := ⟨_, rfl⟩
  have wH : IntKind.i64.wrap H = H := by rw [← hH]; exact wm12
  have eH : tcpH l = H := by unfold tcpH; rw [e12, hH]
  have eF : tcpF l = FL := by unfold tcpF; rw [e13, hF]
  rw [eH] at h4 h5
  rw [eF] at hfl
  have KS : Hid (∀ W, Row W (some ⟨bk, off, none⟩) l → Calls Try.prog 67 #[.agg #[.int .i64 f, .int .i64 sf, .int .u64 sh, .int .u64 sl, .int .i64 df, .int .u64 dh, .int .u64 dl, .int .i64 pr, .int .i64 ho, .bool fg, .int .u32 id, .int .i64 of, .bool mo, .slice xa xn xc, .slice (some ⟨bk, off, none⟩) l.length dc], .slice (some ⟨bk, off, none⟩) l.length dc] W fun e w' => e = .returned (.bool true) ∧ Below W.heap.size W w') := fun W hW => by
    have := sumsUp_any f sf sh sl df dh dl pr ho fg id of mo xa xn xc (some ⟨bk, off, none⟩) dc l (some ⟨bk, off, none⟩) dc l W hW hs hd
    rw [hsum] at this
    exact this
  have KF : Hid (∀ W, Calls Try.prog 68 #[.int .i64 FL] W fun e w' => e = .returned (.bool true) ∧ w' = W) := fun W => by
    have := rightFlags_any FL W
    rw [hfl] at this
    exact this
  clear hsum hfl
  obtain ⟨hh, hHn⟩ := Int.eq_ofNat_of_zero_le (show 0 ≤ H by omega)
  subst hHn
  have n20 : 20 ≤ hh := by omega
  have nhl : hh ≤ l.length := by omega
  have jh1 : (0 : Int) ≤ (hh : Int) := by omega
  have jh2 : (hh : Int) ≤ (l.length : Int) := by omega
  obtain ⟨a3, ha3⟩ : ∃ a3 : Option Addr, (if dc = hh then (some ⟨bk, off, none⟩) else Option.map (fun x : Addr => x.add hh) (some ⟨bk, off, none⟩)) = a3 := ⟨_, rfl⟩
  have H3 : Hid ((if dc = hh then some (⟨bk, off, none⟩ : Addr) else some ⟨bk, off + hh, none⟩) = a3) := by
    have : (if dc = hh then some (⟨bk, off, none⟩ : Addr) else some ⟨bk, off + hh, none⟩) = a3 := by
      rw [← ha3]
      simp [Go.WideShapes.add_plain]
    exact this
  obtain ⟨D, hD⟩ : ∃ D, l.drop hh = D := ⟨_, rfl⟩
  have lD : D.length = l.length - hh := by rw [← hD, List.length_drop]
  have KC : Hid (∀ W, Row W (some ⟨bk, off, none⟩) l → Calls Try.prog 72 #[.slice a3 (l.length - hh) (dc - hh)] W fun e w' => ∃ a' c', e = .returned (.slice a' D.length c') ∧ Fresh W w' a' c' D) := fun W hW => by
    have hr := hW.drop dc hh hc
    rw [ha3, hD] at hr
    have := clone_any a3 (dc - hh) D W hr (fun e => by
      rw [e] at ha3
      split at ha3
      · cases ha3
      · cases ha3)
    rw [lD] at this ⊢
    exact this
  obtain ⟨V, hV⟩ : ∃ V, portsOf f pr l = V := ⟨_, rfl⟩
  have KW : Hid (∀ W, Row W (some ⟨bk, off, none⟩) l → Calls Try.prog 70 #[.agg #[.int .i64 f, .int .i64 sf, .int .u64 sh, .int .u64 sl, .int .i64 df, .int .u64 dh, .int .u64 dl, .int .i64 pr, .int .i64 ho, .bool fg, .int .u32 id, .int .i64 of, .bool mo, .slice xa xn xc, .slice (some ⟨bk, off, none⟩) l.length dc]] W fun e w' => e = .returned (.agg #[.int .i64 f, .int .i64 pr, .int .i64 sf, .int .u64 sh, .int .u64 sl, .int .i64 df, .int .u64 dh, .int .u64 dl, .int .i64 V.1, .int .i64 V.2]) ∧ Below W.heap.size W w') := fun W hW => by
    have := way_any f sf sh sl df dh dl pr ho fg id of mo xa xn xc (some ⟨bk, off, none⟩) dc l W hW (by omega)
    rw [hV] at this
    exact this
  obtain ⟨sq, hsq⟩ : ∃ x, u32v l 4 = x := ⟨_, rfl⟩
  obtain ⟨ak, hak⟩ : ∃ x, u32v l 8 = x := ⟨_, rfl⟩
  obtain ⟨wn, hwn⟩ : ∃ x, u16v l 14 = x := ⟨_, rfl⟩
  obtain ⟨y1, hy1⟩ : ∃ x, liesB l.length 4 4 = x := ⟨_, rfl⟩
  obtain ⟨y2, hy2⟩ : ∃ x, liesB l.length 8 4 = x := ⟨_, rfl⟩
  have K4 : Hid (∀ W, Row W (some ⟨bk, off, none⟩) l → Calls Try.prog 69 #[.slice (some ⟨bk, off, none⟩) l.length dc, .int .i64 4] W fun e w' => e = .returned (.tuple #[.int .u32 sq, .bool y1]) ∧ Below W.heap.size W w') := fun W hW => by
    have := u32_any (some ⟨bk, off, none⟩) dc l 4 W hW (by decide)
    rw [hsq, hy1] at this
    exact this
  have K8 : Hid (∀ W, Row W (some ⟨bk, off, none⟩) l → Calls Try.prog 69 #[.slice (some ⟨bk, off, none⟩) l.length dc, .int .i64 8] W fun e w' => e = .returned (.tuple #[.int .u32 ak, .bool y2]) ∧ Below W.heap.size W w') := fun W hW => by
    have := u32_any (some ⟨bk, off, none⟩) dc l 8 W hW (by decide)
    rw [hak, hy2] at this
    exact this
  have K14 : Hid (∀ W, Row W (some ⟨bk, off, none⟩) l → Calls Try.prog 71 #[.slice (some ⟨bk, off, none⟩) l.length dc, .int .i64 14] W fun e w' => e = .returned (.int .i64 wn) ∧ Below W.heap.size W w') := fun W hW => by
    have := segU16_any (some ⟨bk, off, none⟩) dc l 14 W hW (by decide)
    rw [hwn] at this
    exact this
  have e : tcpX f pr ⟨sf, sh, sl⟩ ⟨df, dh, dl⟩ l = ⟨⟨f, pr, ⟨sf, sh, sl⟩, ⟨df, dh, dl⟩, V.1, V.2⟩, FL, sq, ak, wn, 0, 0, false, zTp, D⟩ := by
    unfold tcpX endT
    rw [hV, eH, eF, hsq, hak, hwn]
    simp only [Int.toNat_natCast]
    rw [hD]
  rw [e]
  have HD : Hid (D.length = l.length - hh) := lD
  clear e hV hD lD hsq hak hwn ha3 eH eF e12 e13 hy1 hy2
  go_enter Try.func55, Try.ntmps55
  go_wp2_with fail
  refine wp_region_noPanic ?_
  refine wp_region_held_drew (S := fun w' => w'.cell? ⟨bk, off + 12, none⟩ = some (.int .u8 x12) ∧ w'.cell? ⟨bk, off + 13, none⟩ = some (.int .u8 x13)) (by kernel_rfl) (by exact ⟨y12, y13⟩) (fun hHeld => ?_)
  refine wpAnyH_take (i := 0) (oi := { dst := some 17, op := Op.move (.tmp 4), type := 28, pos := "parse.go:42", after := #[], guard := none }) (v := (.slice (some ⟨bk, off, none⟩) l.length dc)) rfl (by kernel_rfl) (by kernel_rfl) (by kernel_rfl) (fun _ _ _ h => h) (Or.inl ⟨by rfl, ?_⟩) hHeld ?_
  · intro w9 hSw
    try dsimp only at hSw
    go_simp
  try simp only [Act.put, List.setIfInBounds_toArray, List.set_cons_zero, List.set_cons_succ]
  refine wpAnyH_take (i := 1) (oi := { dst := some 18, op := Op.indexAddr 28 (.tmp 17) (.const (.int .i64 12)), type := 0, pos := "parse.go:42", after := #[{ on := 0, ground := Ground.data }], guard := none }) (v := (.pointer (some ⟨bk, off + 12, none⟩))) rfl (by kernel_rfl) (by kernel_rfl) (by kernel_rfl) (fun _ _ _ h => h) (Or.inl ⟨by rfl, ?_⟩) hHeld ?_
  · intro w9 hSw
    try dsimp only at hSw
    go_simp
  try simp only [Act.put, List.setIfInBounds_toArray, List.set_cons_zero, List.set_cons_succ]
  refine wpAnyH_take (i := 2) (oi := { dst := some 19, op := Op.load 5 (.tmp 18), type := 5, pos := "parse.go:42", after := #[{ on := 1, ground := Ground.data }], guard := none }) (v := (.int .u8 x12)) rfl (by kernel_rfl) (by kernel_rfl) (by kernel_rfl) (fun _ _ _ h => h) (Or.inl ⟨by rfl, ?_⟩) hHeld ?_
  · intro w9 hSw
    try dsimp only at hSw
    go_simp
  try simp only [Act.put, List.setIfInBounds_toArray, List.set_cons_zero, List.set_cons_succ]
  refine wpAnyH_take (i := 3) (oi := { dst := some 20, op := Op.binOp BinOp.shr 5 (.tmp 19) (.const (.int .u64 4)) 72, type := 5, pos := "parse.go:42", after := #[{ on := 2, ground := Ground.data }], guard := none }) (v := (.int .u8 (x12 / 16))) rfl (by kernel_rfl) (by kernel_rfl) (by kernel_rfl) (fun _ _ _ h => h) (Or.inl ⟨by rfl, ?_⟩) hHeld ?_
  · intro w9 hSw
    try dsimp only at hSw
    go_simp
  try simp only [Act.put, List.setIfInBounds_toArray, List.set_cons_zero, List.set_cons_succ]
  refine wpAnyH_take (i := 4) (oi := { dst := some 21, op := Op.convert 5 3 (.tmp 20), type := 3, pos := "parse.go:42", after := #[{ on := 3, ground := Ground.data }], guard := none }) (v := (.int .i64 (x12 / 16))) rfl (by kernel_rfl) (by kernel_rfl) (by kernel_rfl) (fun _ _ _ h => h) (Or.inl ⟨by rfl, ?_⟩) hHeld ?_
  · intro w9 hSw
    try dsimp only at hSw
    go_simp
  try simp only [Act.put, List.setIfInBounds_toArray, List.set_cons_zero, List.set_cons_succ]
  refine wpAnyH_take (i := 5) (oi := { dst := some 22, op := Op.binOp BinOp.mul 3 (.tmp 21) (.const (.int .i64 4)) 3, type := 3, pos := "parse.go:42", after := #[{ on := 4, ground := Ground.data }], guard := none }) (v := (.int .i64 (hh : Int))) rfl (by kernel_rfl) (by kernel_rfl) (by kernel_rfl) (fun _ _ _ h => h) (Or.inl ⟨by rfl, ?_⟩) hHeld ?_
  · intro w9 hSw
    try dsimp only at hSw
    go_simp
    try exact hH
  try simp only [Act.put, List.setIfInBounds_toArray, List.set_cons_zero, List.set_cons_succ]
  refine wpAnyH_take (i := 6) (oi := { dst := some 23, op := Op.move (.tmp 4), type := 28, pos := "parse.go:42", after := #[{ on := 11, ground := Ground.gcOnly Departure.lateStores }], guard := none }) (v := (.slice (some ⟨bk, off, none⟩) l.length dc)) rfl (by kernel_rfl) (by kernel_rfl) (by kernel_rfl) (fun _ _ _ h => h) (Or.inl ⟨by rfl, ?_⟩) hHeld ?_
  · intro w9 hSw
    try dsimp only at hSw
    go_simp
  try simp only [Act.put, List.setIfInBounds_toArray, List.set_cons_zero, List.set_cons_succ]
  refine wpAnyH_take (i := 7) (oi := { dst := some 24, op := Op.indexAddr 28 (.tmp 23) (.const (.int .i64 13)), type := 0, pos := "parse.go:42", after := #[{ on := 6, ground := Ground.data }, { on := 11, ground := Ground.gcOnly Departure.lateStores }], guard := none }) (v := (.pointer (some ⟨bk, off + 13, none⟩))) rfl (by kernel_rfl) (by kernel_rfl) (by kernel_rfl) (fun _ _ _ h => h) (Or.inl ⟨by rfl, ?_⟩) hHeld ?_
  · intro w9 hSw
    try dsimp only at hSw
    go_simp
  try simp only [Act.put, List.setIfInBounds_toArray, List.set_cons_zero, List.set_cons_succ]
  refine wpAnyH_take (i := 8) (oi := { dst := some 25, op := Op.load 5 (.tmp 24), type := 5, pos := "parse.go:42", after := #[{ on := 7, ground := Ground.data }, { on := 11, ground := Ground.gcOnly Departure.lateStores }], guard := none }) (v := (.int .u8 x13)) rfl (by kernel_rfl) (by kernel_rfl) (by kernel_rfl) (fun _ _ _ h => h) (Or.inl ⟨by rfl, ?_⟩) hHeld ?_
  · intro w9 hSw
    try dsimp only at hSw
    go_simp
  try simp only [Act.put, List.setIfInBounds_toArray, List.set_cons_zero, List.set_cons_succ]
  refine wpAnyH_take (i := 9) (oi := { dst := some 26, op := Op.convert 5 3 (.tmp 25), type := 3, pos := "parse.go:42", after := #[{ on := 8, ground := Ground.data }, { on := 11, ground := Ground.gcOnly Departure.lateStores }], guard := none }) (v := (.int .i64 x13)) rfl (by kernel_rfl) (by kernel_rfl) (by kernel_rfl) (fun _ _ _ h => h) (Or.inl ⟨by rfl, ?_⟩) hHeld ?_
  · intro w9 hSw
    try dsimp only at hSw
    go_simp
  try simp only [Act.put, List.setIfInBounds_toArray, List.set_cons_zero, List.set_cons_succ]
  refine wpAnyH_take (i := 10) (oi := { dst := some 27, op := Op.binOp BinOp.and 3 (.tmp 26) (.const (.int .i64 63)) 3, type := 3, pos := "parse.go:42", after := #[{ on := 9, ground := Ground.data }, { on := 11, ground := Ground.gcOnly Departure.lateStores }], guard := none }) (v := (.int .i64 FL)) rfl (by kernel_rfl) (by kernel_rfl) (by kernel_rfl) (fun _ _ _ h => h) (Or.inl ⟨by rfl, ?_⟩) hHeld ?_
  · intro w9 hSw
    try dsimp only at hSw
    go_simp
    try exact hF
  try simp only [Act.put, List.setIfInBounds_toArray, List.set_cons_zero, List.set_cons_succ]
  refine wpAnyH_take (i := 11) (oi := { dst := some 5, op := Op.assign (.tmp 22), type := 3, pos := "parse.go:42", after := #[{ on := 5, ground := Ground.data }, { on := 0, ground := Ground.phase }, { on := 1, ground := Ground.phase }, { on := 2, ground := Ground.phase }, { on := 3, ground := Ground.phase }, { on := 4, ground := Ground.phase }, { on := 5, ground := Ground.phase }, { on := 6, ground := Ground.textOnly Departure.lateStores }, { on := 7, ground := Ground.textOnly Departure.lateStores }, { on := 8, ground := Ground.textOnly Departure.lateStores }, { on := 9, ground := Ground.textOnly Departure.lateStores }, { on := 10, ground := Ground.textOnly Departure.lateStores }], guard := none }) (v := (.int .i64 (hh : Int))) rfl (by kernel_rfl) (by kernel_rfl) (by kernel_rfl) (fun _ _ _ h => h) (Or.inl ⟨by rfl, ?_⟩) hHeld ?_
  · intro w9 hSw
    try dsimp only at hSw
    go_simp
  try simp only [Act.put, List.setIfInBounds_toArray, List.set_cons_zero, List.set_cons_succ]
  refine wpAnyH_take (i := 12) (oi := { dst := some 6, op := Op.assign (.tmp 27), type := 3, pos := "parse.go:42", after := #[{ on := 10, ground := Ground.data }, { on := 11, ground := Ground.chain }, { on := 0, ground := Ground.phase }, { on := 1, ground := Ground.phase }, { on := 2, ground := Ground.phase }, { on := 3, ground := Ground.phase }, { on := 4, ground := Ground.phase }, { on := 5, ground := Ground.phase }, { on := 6, ground := Ground.phase }, { on := 7, ground := Ground.phase }, { on := 8, ground := Ground.phase }, { on := 9, ground := Ground.phase }, { on := 10, ground := Ground.phase }, { on := 11, ground := Ground.phase }], guard := none }) (v := (.int .i64 FL)) rfl (by kernel_rfl) (by kernel_rfl) (by kernel_rfl) (fun _ _ _ h => h) (Or.inl ⟨by rfl, ?_⟩) hHeld ?_
  · intro w9 hSw
    try dsimp only at hSw
    go_simp
  try simp only [Act.put, List.setIfInBounds_toArray, List.set_cons_zero, List.set_cons_succ]
  refine wpAnyH_done (by kernel_rfl) ?_ _
  refine NoPanic.normal ?_
  replace B1 := B1.drew
  replace B2 := B2.drew
  replace b2 := b2.drew
  clear hW1 hW2 y12 y13 d0 d14 hHeld hH hF wx12 wm12 wx13 wH i12 i13
  generalize W2.drew = W3 at *
  have r3 := h.below b2
  go_wp2_with (refine wpList_load_row rfl _ _ rfl w.heap.size (by rfl) _ _ _ _ B1 Try.underlying64 rfl (by kernel_rfl) ?_)
  refine Calls.mono (KS.out _ r3) ?_
  rintro e W4 ⟨rfl, bb⟩
  have b4 : Below w.heap.size w W4 := b2.trans (bb.mono b2.size)
  have B4 := B1.kept bb
  have B4' := B2.kept bb
  clear KS bb B1 B2 b2 r3
  go_wp2_with fail
  refine Calls.mono (KF.out _) ?_
  rintro e W4x ⟨rfl, hW4x⟩
  subst hW4x
  clear KF
  go_wp2_with fail
  refine Calls.mono (K4.out _ (h.below b4)) ?_
  rintro e W5 ⟨rfl, bb⟩
  have b5 : Below w.heap.size w W5 := b4.trans (bb.mono b4.size)
  have B5 := B4.kept bb
  have B5' := B4'.kept bb
  clear K4 bb B4 B4' b4
  go_wp2_with fail
  refine Calls.mono (K8.out _ (h.below b5)) ?_
  rintro e W6 ⟨rfl, bb⟩
  have b6 : Below w.heap.size w W6 := b5.trans (bb.mono b5.size)
  have B6 := B5.kept bb
  have B6' := B5'.kept bb
  clear K8 bb B5 B5' b5
  go_wp2_with fail
  refine wp_region_noPanic ?_
  refine wp_region_held_drew (S := fun w' => Blk w' w.heap.size 64 #[.int .i64 f, .int .i64 sf, .int .u64 sh, .int .u64 sl, .int .i64 df, .int .u64 dh, .int .u64 dl, .int .i64 pr, .int .i64 ho, .bool fg, .int .u32 id, .int .i64 of, .bool mo, .slice xa xn xc, .slice (some ⟨bk, off, none⟩) l.length dc]) (by kernel_rfl) (by exact B6.drew) (fun hHeld => ?_)
  refine wpAnyH_take (i := 0) (oi := { dst := some 59, op := Op.load 64 (.tmp 1), type := 64, pos := "parse.go:53", after := #[], guard := none }) (v := (.agg #[.int .i64 f, .int .i64 sf, .int .u64 sh, .int .u64 sl, .int .i64 df, .int .u64 dh, .int .u64 dl, .int .i64 pr, .int .i64 ho, .bool fg, .int .u32 id, .int .i64 of, .bool mo, .slice xa xn xc, .slice (some ⟨bk, off, none⟩) l.length dc])) rfl (by kernel_rfl) (by kernel_rfl) (by kernel_rfl) (fun _ _ _ h => h) (yieldsIf_blk rfl _ _ rfl w.heap.size (by rfl) _ (fun _ hSw => hSw) Try.underlying64 (by kernel_rfl)) hHeld ?_
  try simp only [Act.put, List.setIfInBounds_toArray, List.set_cons_zero, List.set_cons_succ]
  refine wpAnyH_take (i := 2) (oi := { dst := some 61, op := Op.move (.tmp 6), type := 3, pos := "parse.go:53", after := #[], guard := none }) (v := (.int .i64 FL)) rfl (by kernel_rfl) (by kernel_rfl) (by kernel_rfl) (fun _ _ _ h => h) (Or.inl ⟨by rfl, ?_⟩) hHeld ?_
  · intro w9 hSw
    try dsimp only at hSw
    go_simp
  try simp only [Act.put, List.setIfInBounds_toArray, List.set_cons_zero, List.set_cons_succ]
  refine wpAnyH_take (i := 3) (oi := { dst := some 62, op := Op.move (.tmp 7), type := 33, pos := "parse.go:53", after := #[], guard := none }) (v := (.int .u32 sq)) rfl (by kernel_rfl) (by kernel_rfl) (by kernel_rfl) (fun _ _ _ h => h) (Or.inl ⟨by rfl, ?_⟩) hHeld ?_
  · intro w9 hSw
    try dsimp only at hSw
    go_simp
  try simp only [Act.put, List.setIfInBounds_toArray, List.set_cons_zero, List.set_cons_succ]
  refine wpAnyH_take (i := 4) (oi := { dst := some 63, op := Op.move (.tmp 9), type := 33, pos := "parse.go:53", after := #[], guard := none }) (v := (.int .u32 ak)) rfl (by kernel_rfl) (by kernel_rfl) (by kernel_rfl) (fun _ _ _ h => h) (Or.inl ⟨by rfl, ?_⟩) hHeld ?_
  · intro w9 hSw
    try dsimp only at hSw
    go_simp
  try simp only [Act.put, List.setIfInBounds_toArray, List.set_cons_zero, List.set_cons_succ]
  refine wpAnyH_take (i := 5) (oi := { dst := some 64, op := Op.move (.tmp 4), type := 28, pos := "parse.go:53", after := #[], guard := none }) (v := (.slice (some ⟨bk, off, none⟩) l.length dc)) rfl (by kernel_rfl) (by kernel_rfl) (by kernel_rfl) (fun _ _ _ h => h) (Or.inl ⟨by rfl, ?_⟩) hHeld ?_
  · intro w9 hSw
    try dsimp only at hSw
    go_simp
  try simp only [Act.put, List.setIfInBounds_toArray, List.set_cons_zero, List.set_cons_succ]
  refine wpAnyH_take (i := 7) (oi := { dst := some 66, op := Op.move (.tmp 4), type := 28, pos := "parse.go:53", after := #[], guard := none }) (v := (.slice (some ⟨bk, off, none⟩) l.length dc)) rfl (by kernel_rfl) (by kernel_rfl) (by kernel_rfl) (fun _ _ _ h => h) (Or.inl ⟨by rfl, ?_⟩) hHeld ?_
  · intro w9 hSw
    try dsimp only at hSw
    go_simp
  try simp only [Act.put, List.setIfInBounds_toArray, List.set_cons_zero, List.set_cons_succ]
  refine wpAnyH_take (i := 8) (oi := { dst := some 67, op := Op.move (.tmp 5), type := 3, pos := "parse.go:53", after := #[], guard := none }) (v := (.int .i64 (hh : Int))) rfl (by kernel_rfl) (by kernel_rfl) (by kernel_rfl) (fun _ _ _ h => h) (Or.inl ⟨by rfl, ?_⟩) hHeld ?_
  · intro w9 hSw
    try dsimp only at hSw
    go_simp
  try simp only [Act.put, List.setIfInBounds_toArray, List.set_cons_zero, List.set_cons_succ]
  refine wpAnyH_take (i := 9) (oi := { dst := some 68, op := Op.slice 28 (.tmp 66) (some (.tmp 67)) none none, type := 28, pos := "parse.go:53", after := #[{ on := 7, ground := Ground.data }, { on := 8, ground := Ground.data }], guard := none }) (v := (.slice a3 (l.length - hh) (dc - hh))) rfl (by kernel_rfl) (by kernel_rfl) (by kernel_rfl) (fun _ _ _ h => h) (Or.inl ⟨by rfl, ?_⟩) hHeld ?_
  · intro w9 hSw
    try dsimp only at hSw
    go_simp
    exact H3.out
  try simp only [Act.put, List.setIfInBounds_toArray, List.set_cons_zero, List.set_cons_succ]
  refine wpAnyH_ready (rs := [1]) (by kernel_rfl) (by simp) ?_
  refine AllReadyH.cons (o := { dst := some 60, op := Op.call { callee := Callee.value (.func 70), args := #[.tmp 59], argTypes := #[64] }, type := 26, pos := "parse.go:53", after := #[{ on := 0, ground := Ground.data }], guard := none }) rfl (fun K hK => ?_) AllReadyH.nil
  go_simp
  refine Calls.mono (KW.out _ (h.below b6.drew)) ?_
  rintro e W7 ⟨rfl, bb⟩
  have B7 := B6.drew.kept bb
  have B7' := B6'.drew.kept bb
  have b7 : Below w.heap.size w W7 := b6.drew.trans (bb.mono b6.drew.size)
  refine hK.out _ _ ?_ (fun hHeld => ?_)
  · exact B7
  clear hK K
  try simp only [Act.put, List.setIfInBounds_toArray, List.set_cons_zero, List.set_cons_succ]
  refine wpAnyH_ready (rs := [6]) (by kernel_rfl) (by simp) ?_
  refine AllReadyH.cons (o := { dst := some 65, op := Op.call { callee := Callee.value (.func 71), args := #[.tmp 64, .const (.int .i64 14)], argTypes := #[28, 3] }, type := 3, pos := "parse.go:53", after := #[{ on := 5, ground := Ground.data }, { on := 1, ground := Ground.chain }], guard := none }) rfl (fun K hK => ?_) AllReadyH.nil
  go_simp
  refine Calls.mono (K14.out _ (h.below b7)) ?_
  rintro e W8 ⟨rfl, bb⟩
  have B8 := B7.kept bb
  have B8' := B7'.kept bb
  have b8 : Below w.heap.size w W8 := b7.trans (bb.mono b7.size)
  refine hK.out _ _ ?_ (fun hHeld => ?_)
  · exact B8
  clear hK K
  try simp only [Act.put, List.setIfInBounds_toArray, List.set_cons_zero, List.set_cons_succ]
  refine wpAnyH_ready (rs := [10]) (by kernel_rfl) (by simp) ?_
  refine AllReadyH.cons (o := { dst := some 69, op := Op.call { callee := Callee.value (.func 72), args := #[.tmp 68], argTypes := #[28] }, type := 28, pos := "parse.go:53", after := #[{ on := 9, ground := Ground.data }, { on := 6, ground := Ground.chain }], guard := none }) rfl (fun K hK => ?_) AllReadyH.nil
  go_simp
  refine Calls.mono (KC.out _ (h.below b8)) ?_
  rintro e W9 ⟨a9, c9, rfl, f9⟩
  have B9 := B8.kept f9.below
  have B9' := B8'.kept f9.below
  have b9 : Below w.heap.size w W9 := b8.trans (f9.below.mono b8.size)
  refine hK.out _ _ ?_ (fun hHeld => ?_)
  · exact B9
  clear hK K
  try simp only [Act.put, List.setIfInBounds_toArray, List.set_cons_zero, List.set_cons_succ]
  refine wpAnyH_take (i := 11) (oi := { dst := some 70, op := Op.build 38 #[(0, .tmp 60), (1, .tmp 61), (2, .tmp 62), (3, .tmp 63), (4, .tmp 65), (9, .tmp 69)], type := 38, pos := "parse.go:53", after := #[{ on := 1, ground := Ground.data }, { on := 2, ground := Ground.data }, { on := 3, ground := Ground.data }, { on := 4, ground := Ground.data }, { on := 6, ground := Ground.data }, { on := 10, ground := Ground.data }], guard := none }) (v := (.agg #[.int .i64 f, .int .i64 pr, .int .i64 sf, .int .u64 sh, .int .u64 sl, .int .i64 df, .int .u64 dh, .int .u64 dl, .int .i64 V.1, .int .i64 V.2, .int .i64 FL, .int .u32 sq, .int .u32 ak, .int .i64 wn, .int .i64 0, .int .i64 0, .bool false, .int .i64 0, .int .i64 0, .int .i64 0, .int .u64 0, .int .u64 0, .int .i64 0, .int .u64 0, .int .u64 0, .int .i64 0, .int .i64 0, .slice a9 D.length c9])) rfl (by kernel_rfl) (by kernel_rfl) (by kernel_rfl) (fun _ _ _ h => h) (yieldsIf_build rfl _ _ rfl #[(0, .agg #[.int .i64 f, .int .i64 pr, .int .i64 sf, .int .u64 sh, .int .u64 sl, .int .i64 df, .int .u64 dh, .int .u64 dl, .int .i64 V.1, .int .i64 V.2]), (1, .int .i64 FL), (2, .int .u32 sq), (3, .int .u32 ak), (4, .int .i64 wn), (9, .slice a9 D.length c9)] (by kernel_rfl) _ (fun w9 => by kernel_rfl)) hHeld ?_
  try simp only [Act.put, List.setIfInBounds_toArray, List.set_cons_zero, List.set_cons_succ]
  refine wpAnyH_ready (rs := [12]) (by kernel_rfl) (by simp) ?_
  refine AllReadyH.cons (o := { dst := none, op := Op.store 38 (.tmp 2) (.tmp 70), type := 0, pos := "parse.go:53", after := #[{ on := 11, ground := Ground.data }, { on := 10, ground := Ground.chain }, { on := 0, ground := Ground.phase }, { on := 1, ground := Ground.phase }, { on := 2, ground := Ground.phase }, { on := 3, ground := Ground.phase }, { on := 4, ground := Ground.phase }, { on := 5, ground := Ground.phase }, { on := 6, ground := Ground.phase }, { on := 7, ground := Ground.phase }, { on := 8, ground := Ground.phase }, { on := 9, ground := Ground.phase }, { on := 10, ground := Ground.phase }, { on := 11, ground := Ground.phase }], guard := none }) rfl (fun K hK => ?_) AllReadyH.nil
  refine step_store_blk rfl _ _ _ rfl W1.heap.size #[.int .i64 f, .int .i64 pr, .int .i64 sf, .int .u64 sh, .int .u64 sl, .int .i64 df, .int .u64 dh, .int .u64 dl, .int .i64 V.1, .int .i64 V.2, .int .i64 FL, .int .u32 sq, .int .u32 ak, .int .i64 wn, .int .i64 0, .int .i64 0, .bool false, .int .i64 0, .int .i64 0, .int .i64 0, .int .u64 0, .int .u64 0, .int .i64 0, .int .u64 0, .int .u64 0, .int .i64 0, .int .i64 0, .slice a9 D.length c9] _ (by kernel_rfl) (by kernel_rfl) B9' (by kernel_rfl) (by rfl) (by kernel_rfl) ?_
  refine hK.out _ _ ?_ (fun hHeld => ?_)
  · exact B9.other (by omega) _
  clear hK K
  try simp only [Act.put, List.setIfInBounds_toArray, List.set_cons_zero, List.set_cons_succ]
  refine wpAnyH_take (i := 13) (oi := { dst := some 3, op := Op.assign (.const (.int .i64 0)), type := 39, pos := "parse.go:53", after := #[{ on := 12, ground := Ground.chain }, { on := 0, ground := Ground.phase }, { on := 1, ground := Ground.phase }, { on := 2, ground := Ground.phase }, { on := 3, ground := Ground.phase }, { on := 4, ground := Ground.phase }, { on := 5, ground := Ground.phase }, { on := 6, ground := Ground.phase }, { on := 7, ground := Ground.phase }, { on := 8, ground := Ground.phase }, { on := 9, ground := Ground.phase }, { on := 10, ground := Ground.phase }, { on := 11, ground := Ground.phase }, { on := 12, ground := Ground.phase }], guard := none }) (v := (.int .i64 0)) rfl (by kernel_rfl) (by kernel_rfl) (by kernel_rfl) (fun _ _ _ h => h) (Or.inl ⟨by rfl, ?_⟩) hHeld ?_
  · intro w9 hSw
    try dsimp only at hSw
    go_simp
  try simp only [Act.put, List.setIfInBounds_toArray, List.set_cons_zero, List.set_cons_succ]
  refine wpAnyH_done (by kernel_rfl) ?_ _
  refine NoPanic.normal ?_
  have Bf := B9'.set #[.int .i64 f, .int .i64 pr, .int .i64 sf, .int .u64 sh, .int .u64 sl, .int .i64 df, .int .u64 dh, .int .u64 dl, .int .i64 V.1, .int .i64 V.2, .int .i64 FL, .int .u32 sq, .int .u32 ak, .int .i64 wn, .int .i64 0, .int .i64 0, .bool false, .int .i64 0, .int .i64 0, .int .i64 0, .int .u64 0, .int .u64 0, .int .i64 0, .int .u64 0, .int .u64 0, .int .i64 0, .int .i64 0, .slice a9 D.length c9]
  have bf := below_setRow b9 (Nat.le_of_lt g1) #[.int .i64 f, .int .i64 pr, .int .i64 sf, .int .u64 sh, .int .u64 sl, .int .i64 df, .int .u64 dh, .int .u64 dl, .int .i64 V.1, .int .i64 V.2, .int .i64 FL, .int .u32 sq, .int .u32 ak, .int .i64 wn, .int .i64 0, .int .i64 0, .bool false, .int .i64 0, .int .i64 0, .int .i64 0, .int .u64 0, .int .u64 0, .int .i64 0, .int .u64 0, .int .u64 0, .int .i64 0, .int .i64 0, .slice a9 D.length c9]
  have oo := (owns_le (B' := W1.heap.size + 1) (by have := B8'.lt; omega) f9.owns).row_other (Nat.lt_succ_self _) #[.int .i64 f, .int .i64 pr, .int .i64 sf, .int .u64 sh, .int .u64 sl, .int .i64 df, .int .u64 dh, .int .u64 dl, .int .i64 V.1, .int .i64 V.2, .int .i64 FL, .int .u32 sq, .int .u32 ak, .int .i64 wn, .int .i64 0, .int .i64 0, .bool false, .int .i64 0, .int .i64 0, .int .i64 0, .int .u64 0, .int .u64 0, .int .i64 0, .int .u64 0, .int .u64 0, .int .i64 0, .int .i64 0, .slice a9 D.length c9]
  go_wp2_with fail
  refine ret_cell_tmp (k := 2) (j := 3) Try.f55 (by kernel_rfl) Bf Try.underlying38 (by kernel_rfl) (by rfl) (by rfl) rfl ?_
  exact ⟨a9, c9, rfl, owns_le (by omega) oo, f9.room, f9.nil, oo.row f9.row.small f9.row.bytes, bf⟩

theorem tcp_any (f sf sh sl df dh dl pr ho : Int) (fg : Bool) (id of : Int) (mo : Bool) (xa : Option Addr) (xn xc : Nat) (da : Option Addr) (dc : Nat) (l : List Int) (w : World) (h : Row w da l) (hnil : da = none → dc = 0) (hc : l.length ≤ dc) (hcm : dc ≤ 9223372036854775807) (hs : Ad.ok ⟨sf, sh, sl⟩) (hd : Ad.ok ⟨df, dh, dl⟩) :
    Calls Try.prog 55 #[.agg #[.int .i64 f, .int .i64 sf, .int .u64 sh, .int .u64 sl, .int .i64 df, .int .u64 dh, .int .u64 dl, .int .i64 pr, .int .i64 ho, .bool fg, .int .u32 id, .int .i64 of, .bool mo, .slice xa xn xc, .slice da l.length dc]] w (GotS w (tcpE f pr ⟨sf, sh, sl⟩ ⟨df, dh, dl⟩ l) (if tcpE f pr ⟨sf, sh, sl⟩ ⟨df, dh, dl⟩ l = 0 then tcpX f pr ⟨sf, sh, sl⟩ ⟨df, dh, dl⟩ l else zSg)) := by
  obtain ⟨E, hE⟩ : ∃ E, tcpE f pr ⟨sf, sh, sl⟩ ⟨df, dh, dl⟩ l = E := ⟨_, rfl⟩
  rw [hE]
  unfold tcpE at hE
  split at hE
  · rename_i h8
    subst hE
    exact tcp_e2 f sf sh sl df dh dl pr ho fg id of mo xa xn xc da dc l w h hnil hc hcm hs hd h8
  rename_i h20
  obtain ⟨bk, off, rfl, _⟩ := h.cells (by omega)
  split at hE
  · rename_i h5
    subst hE
    by_cases h4 : tcpH l < 20
    · exact tcp_e4a f sf sh sl df dh dl pr ho fg id of mo xa xn xc bk off dc l w h hc hcm hs hd h20 h4
    · exact tcp_e4b f sf sh sl df dh dl pr ho fg id of mo xa xn xc bk off dc l w h hc hcm hs hd h20 h4 (by omega)
  rename_i h5
  have h4 : ¬ tcpH l < 20 := by omega
  have h6 : ¬ tcpH l > (l.length : Int) := by omega
  split at hE
  · rename_i hsum
    subst hE
    exact tcp_e6 f sf sh sl df dh dl pr ho fg id of mo xa xn xc bk off dc l w h hc hcm hs hd h20 h4 h6 hsum
  rename_i hsum
  have hsum : sumsB ⟨sf, sh, sl⟩ ⟨df, dh, dl⟩ pr l = true := by simpa using hsum
  split at hE
  · rename_i hfl
    subst hE
    exact tcp_e10 f sf sh sl df dh dl pr ho fg id of mo xa xn xc bk off dc l w h hc hcm hs hd h20 h4 h6 hsum hfl
  · rename_i hfl
    subst hE
    exact tcp_ok f sf sh sl df dh dl pr ho fg id of mo xa xn xc bk off dc l w h hc hcm hs hd h20 h4 h6 hsum (by simpa using hfl)

end Go.Proofs.Ytgdpcomcndidcaa

namespace Go.Proofs.Ytgdpcomcndidcaa
open Go.RowKit
set_option linter.unusedVariables false
set_option linter.unusedSimpArgs false

set_option maxRecDepth 100000 in
theorem and15_u8 (x : Int) (h0 : 0 ≤ x) (h1 : x ≤ 255) : bits .and .u8 x 15 = x % 16 := by
  obtain ⟨n, rfl⟩ := Int.eq_ofNat_of_zero_le h0
  have h : ∀ n : Nat, n < 256 → bits .and .u8 (n : Int) 15 = (n : Int) % 16 := by decide
  exact h n (by omega)

set_option maxRecDepth 100000 in
set_option maxHeartbeats 4000000 in
theorem inner4_n1 (bk off dc : Nat) (b : List Int) (w : World) (h : Row w (some ⟨bk, off, none⟩) b) (hll : b.length ≤ 140737488351232) (hc : b.length ≤ dc) (hcm : dc ≤ 9223372036854775807) (hne : ¬ b.length = 0) (h4 : b.getD 0 0 % 16 * 4 < 20) :
    Calls Try.prog 84 #[.slice (some ⟨bk, off, none⟩) b.length dc] w fun e w' => e = .returned (.tuple #[.agg (tpv ((inner4 b).getD zTp)), .bool (inner4 b).isSome]) ∧ Below w.heap.size w w' := by
  obtain ⟨W1, hW1⟩ : ∃ W1, w.alloc (.cells #[.int .i64 0, .int .i64 0, .int .i64 0, .int .u64 0, .int .u64 0, .int .i64 0, .int .u64 0, .int .u64 0, .int .i64 0, .int .i64 0] 26) = W1 := ⟨_, rfl⟩
  have b1 : Below w.heap.size w W1 := by rw [← hW1]; exact (Below.refl _ _).alloc (Nat.le_refl _) _
  have B1 : Blk W1 w.heap.size 26 #[.int .i64 0, .int .i64 0, .int .i64 0, .int .u64 0, .int .u64 0, .int .i64 0, .int .u64 0, .int .u64 0, .int .i64 0, .int .i64 0] := by rw [← hW1]; exact blk_new _ _ _
  have eN : inner4 b = none := by
    unfold inner4
    rw [if_pos (Or.inl h4)]
  rw [eN]
  clear eN
  have hne' : ¬ b = [] := by intro e; rw [e] at hne; simp at hne
  obtain ⟨x0, e0⟩ : ∃ x, b.getD 0 0 = x := ⟨_, rfl⟩
  have q0 := h.bytes.get 0
  obtain ⟨bk', off', ee, hcl⟩ := h.cells (by omega)
  cases ee
  have y0 := kept (b := bk) (o := off + 0) b1 (hcl 0 (by omega))
  rw [e0, Nat.add_zero] at y0
  rw [e0] at q0
  have i0 : (0 : Int) < (b.length : Int) := by omega
  have a15 : bits .and .u8 x0 15 = x0 % 16 := and15_u8 x0 q0.1 q0.2
  have wx0 : IntKind.i64.wrap (x0 % 16) = x0 % 16 := wraps_i64 _ (by omega) (by omega)
  obtain ⟨H, hH⟩ : ∃ H, x0 % 16 * 4 = H := ⟨_, rfl⟩
  have wH : IntKind.i64.wrap H = H := by rw [← hH]; exact wraps_i64 _ (by omega) (by omega)
  have wH4 : IntKind.i64.wrap (x0 % 16 * 4) = H := by rw [hH]; exact wH
  have H0 : 0 ≤ H := by omega
  have H60 : H ≤ 60 := by omega
  have wS_ : IntKind.i64.wrap ((b.length : Int) - H) = (b.length : Int) - H := by rw [IntKind.wrap_i64]; omega
  rw [e0, hH] at h4
  clear hH e0 hcl
  have hbz : (Instr.build 26 #[]).run Try.prog W1 = .ok (.agg #[.int .i64 0, .int .i64 0, .int .i64 0, .int .u64 0, .int .u64 0, .int .i64 0, .int .u64 0, .int .u64 0, .int .i64 0, .int .i64 0]) W1 := by kernel_rfl
  go_enter Try.func84, Try.ntmps84
  have Bf := B1.set #[.int .i64 0, .int .i64 0, .int .i64 0, .int .u64 0, .int .u64 0, .int .i64 0, .int .u64 0, .int .u64 0, .int .i64 0, .int .i64 0]
  have bf := below_setRow b1 (Nat.le_refl _) #[.int .i64 0, .int .i64 0, .int .i64 0, .int .u64 0, .int .u64 0, .int .i64 0, .int .u64 0, .int .u64 0, .int .i64 0, .int .i64 0]
  go_wp2_with (first
    | (refine wpList_build _ rfl _ _ rfl _ (by rfl) _ hbz ?_)
    | (refine wpList_store_row rfl _ _ _ rfl w.heap.size #[.int .i64 0, .int .i64 0, .int .i64 0, .int .u64 0, .int .u64 0, .int .i64 0, .int .u64 0, .int .u64 0, .int .i64 0, .int .i64 0] (by rfl) (by rfl) _ _ B1 (by kernel_rfl) (by rfl) (by kernel_rfl) ?_))
  exact ret_cell_tmp (k := 2) (j := 3) Try.f84 (by kernel_rfl) Bf Try.underlying26 (by kernel_rfl) (by rfl) (by rfl) rfl ⟨rfl, bf⟩

set_option maxRecDepth 100000 in
set_option maxHeartbeats 4000000 in
theorem inner4_n2 (bk off dc : Nat) (b : List Int) (w : World) (h : Row w (some ⟨bk, off, none⟩) b) (hll : b.length ≤ 140737488351232) (hc : b.length ≤ dc) (hcm : dc ≤ 9223372036854775807) (hne : ¬ b.length = 0) (h4 : ¬ b.getD 0 0 % 16 * 4 < 20) (h5 : (b.length : Int) - b.getD 0 0 % 16 * 4 < 8) :
    Calls Try.prog 84 #[.slice (some ⟨bk, off, none⟩) b.length dc] w fun e w' => e = .returned (.tuple #[.agg (tpv ((inner4 b).getD zTp)), .bool (inner4 b).isSome]) ∧ Below w.heap.size w w' := by
  obtain ⟨W1, hW1⟩ : ∃ W1, w.alloc (.cells #[.int .i64 0, .int .i64 0, .int .i64 0, .int .u64 0, .int .u64 0, .int .i64 0, .int .u64 0, .int .u64 0, .int .i64 0, .int .i64 0] 26) = W1 := ⟨_, rfl⟩
  have b1 : Below w.heap.size w W1 := by rw [← hW1]; exact (Below.refl _ _).alloc (Nat.le_refl _) _
  have B1 : Blk W1 w.heap.size 26 #[.int .i64 0, .int .i64 0, .int .i64 0, .int .u64 0, .int .u64 0, .int .i64 0, .int .u64 0, .int .u64 0, .int .i64 0, .int .i64 0] := by rw [← hW1]; exact blk_new _ _ _
  have eN : inner4 b = none := by
    unfold inner4
    rw [if_pos (Or.inr h5)]
  rw [eN]
  clear eN
  have hne' : ¬ b = [] := by intro e; rw [e] at hne; simp at hne
  obtain ⟨x0, e0⟩ : ∃ x, b.getD 0 0 = x := ⟨_, rfl⟩
  have q0 := h.bytes.get 0
  obtain ⟨bk', off', ee, hcl⟩ := h.cells (by omega)
  cases ee
  have y0 := kept (b := bk) (o := off + 0) b1 (hcl 0 (by omega))
  rw [e0, Nat.add_zero] at y0
  rw [e0] at q0
  have i0 : (0 : Int) < (b.length : Int) := by omega
  have a15 : bits .and .u8 x0 15 = x0 % 16 := and15_u8 x0 q0.1 q0.2
  have wx0 : IntKind.i64.wrap (x0 % 16) = x0 % 16 := wraps_i64 _ (by omega) (by omega)
  obtain ⟨H, hH⟩ : ∃ H, x0 % 16 * 4 = H := ⟨_, rfl⟩
  have wH : IntKind.i64.wrap H = H := by rw [← hH]; exact wraps_i64 _ (by omega) (by omega)
  have wH4 : IntKind.i64.wrap (x0 % 16 * 4) = H := by rw [hH]; exact wH
  have H0 : 0 ≤ H := by omega
  have H60 : H ≤ 60 := by omega
  have wS_ : IntKind.i64.wrap ((b.length : Int) - H) = (b.length : Int) - H := by rw [IntKind.wrap_i64]; omega
  rw [e0, hH] at h4 h5
  clear hH e0 hcl
  have hbz : (Instr.build 26 #[]).run Try.prog W1 = .ok (.agg #[.int .i64 0, .int .i64 0, .int .i64 0, .int .u64 0, .int .u64 0, .int .i64 0, .int .u64 0, .int .u64 0, .int .i64 0, .int .i64 0]) W1 := by kernel_rfl
  go_enter Try.func84, Try.ntmps84
  have Bf := B1.set #[.int .i64 0, .int .i64 0, .int .i64 0, .int .u64 0, .int .u64 0, .int .i64 0, .int .u64 0, .int .u64 0, .int .i64 0, .int .i64 0]
  have bf := below_setRow b1 (Nat.le_refl _) #[.int .i64 0, .int .i64 0, .int .i64 0, .int .u64 0, .int .u64 0, .int .i64 0, .int .u64 0, .int .u64 0, .int .i64 0, .int .i64 0]
  go_wp2_with (first
    | (refine wpList_build _ rfl _ _ rfl _ (by rfl) _ hbz ?_)
    | (refine wpList_store_row rfl _ _ _ rfl w.heap.size #[.int .i64 0, .int .i64 0, .int .i64 0, .int .u64 0, .int .u64 0, .int .i64 0, .int .u64 0, .int .u64 0, .int .i64 0, .int .i64 0] (by rfl) (by rfl) _ _ B1 (by kernel_rfl) (by rfl) (by kernel_rfl) ?_))
  exact ret_cell_tmp (k := 2) (j := 3) Try.f84 (by kernel_rfl) Bf Try.underlying26 (by kernel_rfl) (by rfl) (by rfl) rfl ⟨rfl, bf⟩

set_option maxRecDepth 100000 in
set_option maxHeartbeats 4000000 in
theorem inner4_y (bk off dc : Nat) (b : List Int) (w : World) (h : Row w (some ⟨bk, off, none⟩) b) (hll : b.length ≤ 140737488351232) (hc : b.length ≤ dc) (hcm : dc ≤ 9223372036854775807) (hne : ¬ b.length = 0) (h4 : ¬ b.getD 0 0 % 16 * 4 < 20) (h5 : ¬ (b.length : Int) - b.getD 0 0 % 16 * 4 < 8) :
    Calls Try.prog 84 #[.slice (some ⟨bk, off, none⟩) b.length dc] w fun e w' => e = .returned (.tuple #[.agg (tpv ((inner4 b).getD zTp)), .bool (inner4 b).isSome]) ∧ Below w.heap.size w w' := by
  obtain ⟨W1, hW1⟩ : ∃ W1, w.alloc (.cells #[.int .i64 0, .int .i64 0, .int .i64 0, .int .u64 0, .int .u64 0, .int .i64 0, .int .u64 0, .int .u64 0, .int .i64 0, .int .i64 0] 26) = W1 := ⟨_, rfl⟩
  have b1 : Below w.heap.size w W1 := by rw [← hW1]; exact (Below.refl _ _).alloc (Nat.le_refl _) _
  have B1 : Blk W1 w.heap.size 26 #[.int .i64 0, .int .i64 0, .int .i64 0, .int .u64 0, .int .u64 0, .int .i64 0, .int .u64 0, .int .u64 0, .int .i64 0, .int .i64 0] := by rw [← hW1]; exact blk_new _ _ _
  have hne' : ¬ b = [] := by intro e; rw [e] at hne; simp at hne
  obtain ⟨x0, e0⟩ : ∃ x, b.getD 0 0 = x := ⟨_, rfl⟩
  have q0 := h.bytes.get 0
  obtain ⟨bk', off', ee, hcl⟩ := h.cells (by omega)
  cases ee
  have y0 := kept (b := bk) (o := off + 0) b1 (hcl 0 (by omega))
  rw [e0, Nat.add_zero] at y0
  rw [e0] at q0
  have i0 : (0 : Int) < (b.length : Int) := by omega
  have a15 : bits .and .u8 x0 15 = x0 % 16 := and15_u8 x0 q0.1 q0.2
  have wx0 : IntKind.i64.wrap (x0 % 16) = x0 % 16 := wraps_i64 _ (by omega) (by omega)
  obtain ⟨H, hH⟩ : ∃ H, x0 % 16 * 4 = H := ⟨_, rfl⟩
  have wH : IntKind.i64.wrap H = H := by rw [← hH]; exact wraps_i64 _ (by omega) (by omega)
  have wH4 : IntKind.i64.wrap (x0 % 16 * 4) = H := by rw [hH]; exact wH
  have H0 : 0 ≤ H := by omega
  have H60 : H ≤ 60 := by omega
  have wS_ : IntKind.i64.wrap ((b.length : Int) - H) = (b.length : Int) - H := by rw [IntKind.wrap_i64]; omega
  rw [e0, hH] at h4 h5
  obtain ⟨hh, hHn⟩ := Int.eq_ofNat_of_zero_le H0
  subst hHn
  have n20 : 20 ≤ hh := by omega
  have nhl : hh + 8 ≤ b.length := by omega
  have jh1 : (0 : Int) ≤ (hh : Int) := by omega
  have jh2 : (hh : Int) ≤ (b.length : Int) := by omega
  obtain ⟨x9, e9⟩ : ∃ x, b.getD 9 0 = x := ⟨_, rfl⟩
  have q9 := h.bytes.get 9
  have y9 := kept (b := bk) (o := off + 9) b1 (hcl 9 (by omega))
  rw [e9] at y9 q9
  have i9 : (9 : Int) < (b.length : Int) := by omega
  have wx9 : IntKind.i64.wrap x9 = x9 := wraps_i64 _ (by omega) (by omega)
  obtain ⟨a3, ha3⟩ : ∃ a3 : Option Addr, (if dc = hh then (some ⟨bk, off, none⟩) else Option.map (fun x : Addr => x.add hh) (some ⟨bk, off, none⟩)) = a3 := ⟨_, rfl⟩
  have H3 : Hid ((if dc = hh then some (⟨bk, off, none⟩ : Addr) else some ⟨bk, off + hh, none⟩) = a3) := by
    have : (if dc = hh then some (⟨bk, off, none⟩ : Addr) else some ⟨bk, off + hh, none⟩) = a3 := by
      rw [← ha3]
      simp [Go.WideShapes.add_plain]
    exact this
  obtain ⟨D, hD⟩ : ∃ D, b.drop hh = D := ⟨_, rfl⟩
  have lD : D.length = b.length - hh := by rw [← hD, List.length_drop]
  obtain ⟨V, hV⟩ : ∃ V, portsOf 4 x9 D = V := ⟨_, rfl⟩
  obtain ⟨A1, hA1⟩ : ∃ A, (fromB (partv b 12 4)).1 = A := ⟨_, rfl⟩
  obtain ⟨A2, hA2⟩ : ∃ A, (fromB (partv b 16 4)).1 = A := ⟨_, rfl⟩
  have e : inner4 b = some ⟨4, x9, A1, A2, V.1, V.2⟩ := by
    unfold inner4
    rw [if_neg (by rw [e0, hH]; omega), e0, hH, e9, hA1, hA2, Int.toNat_natCast, hD, hV]
  rw [e]
  obtain ⟨sf, sh, sl⟩ := A1
  obtain ⟨df, dh, dl⟩ := A2
  have KA : Hid (∀ W, Row W (some ⟨bk, off, none⟩) b → Calls Try.prog 88 #[.slice (some ⟨bk, off, none⟩) b.length dc, .int .i64 12, .int .i64 4] W fun e w' => e = .returned (.agg #[.int .i64 sf, .int .u64 sh, .int .u64 sl]) ∧ Below W.heap.size W w') := fun W hW => by
    have := segAddrAt_any (some ⟨bk, off, none⟩) dc b 12 4 W hW (fun e => by cases e) hll hc hcm (by decide)
    rw [hA1] at this
    exact this
  have KB : Hid (∀ W, Row W (some ⟨bk, off, none⟩) b → Calls Try.prog 88 #[.slice (some ⟨bk, off, none⟩) b.length dc, .int .i64 16, .int .i64 4] W fun e w' => e = .returned (.agg #[.int .i64 df, .int .u64 dh, .int .u64 dl]) ∧ Below W.heap.size W w') := fun W hW => by
    have := segAddrAt_any (some ⟨bk, off, none⟩) dc b 16 4 W hW (fun e => by cases e) hll hc hcm (by decide)
    rw [hA2] at this
    exact this
  have KP : Hid (∀ W, Row W (some ⟨bk, off, none⟩) b → Calls Try.prog 82 #[.agg #[.int .i64 4, .int .i64 x9, .int .i64 sf, .int .u64 sh, .int .u64 sl, .int .i64 df, .int .u64 dh, .int .u64 dl, .int .i64 0, .int .i64 0], .slice a3 (b.length - hh) (dc - hh)] W fun e w' => e = .returned (.agg #[.int .i64 4, .int .i64 x9, .int .i64 sf, .int .u64 sh, .int .u64 sl, .int .i64 df, .int .u64 dh, .int .u64 dl, .int .i64 V.1, .int .i64 V.2]) ∧ Below W.heap.size W w') := fun W hW => by
    have hr := hW.drop dc hh hc
    rw [ha3, hD] at hr
    have := withPorts_any 4 x9 sf sh sl df dh dl a3 (dc - hh) D W hr (by omega)
    rw [lD, hV] at this
    exact this
  clear e hV hD lD ha3 hA1 hA2 hcl e0 e9 hH
  go_enter Try.func84, Try.ntmps84
  go_wp2_with fail
  refine wp_region_noPanic ?_
  refine wp_region_held_drew (S := fun w' => w'.cell? ⟨bk, off + 9, none⟩ = some (.int .u8 x9)) (by kernel_rfl) (by exact y9) (fun hHeld => ?_)
  refine wpAnyH_take (i := 0) (oi := { dst := some 22, op := Op.move (.tmp 0), type := 28, pos := "parse.go:160", after := #[], guard := none }) (v := (.slice (some ⟨bk, off, none⟩) b.length dc)) rfl (by kernel_rfl) (by kernel_rfl) (by kernel_rfl) (fun _ _ _ h => h) (Or.inl ⟨by rfl, ?_⟩) hHeld ?_
  · intro w9 hSw
    try dsimp only at hSw
    go_simp
  try simp only [Act.put, List.setIfInBounds_toArray, List.set_cons_zero, List.set_cons_succ]
  refine wpAnyH_take (i := 1) (oi := { dst := some 23, op := Op.indexAddr 28 (.tmp 22) (.const (.int .i64 9)), type := 0, pos := "parse.go:160", after := #[{ on := 0, ground := Ground.data }], guard := none }) (v := (.pointer (some ⟨bk, off + 9, none⟩))) rfl (by kernel_rfl) (by kernel_rfl) (by kernel_rfl) (fun _ _ _ h => h) (Or.inl ⟨by rfl, ?_⟩) hHeld ?_
  · intro w9 hSw
    try dsimp only at hSw
    go_simp
  try simp only [Act.put, List.setIfInBounds_toArray, List.set_cons_zero, List.set_cons_succ]
  refine wpAnyH_take (i := 2) (oi := { dst := some 24, op := Op.load 5 (.tmp 23), type := 5, pos := "parse.go:160", after := #[{ on := 1, ground := Ground.data }], guard := none }) (v := (.int .u8 x9)) rfl (by kernel_rfl) (by kernel_rfl) (by kernel_rfl) (fun _ _ _ h => h) (Or.inl ⟨by rfl, ?_⟩) hHeld ?_
  · intro w9 hSw
    try dsimp only at hSw
    go_simp
  try simp only [Act.put, List.setIfInBounds_toArray, List.set_cons_zero, List.set_cons_succ]
  refine wpAnyH_take (i := 3) (oi := { dst := some 25, op := Op.convert 5 3 (.tmp 24), type := 3, pos := "parse.go:160", after := #[{ on := 2, ground := Ground.data }], guard := none }) (v := (.int .i64 x9)) rfl (by kernel_rfl) (by kernel_rfl) (by kernel_rfl) (fun _ _ _ h => h) (Or.inl ⟨by rfl, ?_⟩) hHeld ?_
  · intro w9 hSw
    try dsimp only at hSw
    go_simp
  try simp only [Act.put, List.setIfInBounds_toArray, List.set_cons_zero, List.set_cons_succ]
  refine wpAnyH_take (i := 4) (oi := { dst := some 26, op := Op.move (.tmp 0), type := 28, pos := "parse.go:160", after := #[], guard := none }) (v := (.slice (some ⟨bk, off, none⟩) b.length dc)) rfl (by kernel_rfl) (by kernel_rfl) (by kernel_rfl) (fun _ _ _ h => h) (Or.inl ⟨by rfl, ?_⟩) hHeld ?_
  · intro w9 hSw
    try dsimp only at hSw
    go_simp
  try simp only [Act.put, List.setIfInBounds_toArray, List.set_cons_zero, List.set_cons_succ]
  refine wpAnyH_take (i := 6) (oi := { dst := some 28, op := Op.move (.tmp 0), type := 28, pos := "parse.go:160", after := #[], guard := none }) (v := (.slice (some ⟨bk, off, none⟩) b.length dc)) rfl (by kernel_rfl) (by kernel_rfl) (by kernel_rfl) (fun _ _ _ h => h) (Or.inl ⟨by rfl, ?_⟩) hHeld ?_
  · intro w9 hSw
    try dsimp only at hSw
    go_simp
  try simp only [Act.put, List.setIfInBounds_toArray, List.set_cons_zero, List.set_cons_succ]
  have c2 := b1.drew
  have z2 : W1.drew.cell? ⟨bk, off + 9, none⟩ = some (.int .u8 x9) := y9
  have R2 := B1.drew
  obtain ⟨W2, hW2⟩ : ∃ W2, W1.drew = W2 := ⟨_, rfl⟩
  rw [hW2] at c2 z2 R2 ⊢
  clear hW2
  refine wpAnyH_ready (rs := [5, 9]) (by kernel_rfl) (by simp) ?_
  refine (AllReadyH.cons (o := { dst := some 27, op := Op.call { callee := Callee.value (.func 88), args := #[.tmp 26, .const (.int .i64 12), .const (.int .i64 4)], argTypes := #[28, 3, 3] }, type := 24, pos := "parse.go:160", after := #[{ on := 4, ground := Ground.data }], guard := none }) rfl (fun K hK => ?_) (AllReadyH.cons (o := { dst := some 5, op := Op.alloc 26, type := 0, pos := "parse.go:160", after := #[], guard := none }) rfl (fun K hK => ?_) AllReadyH.nil))
  · go_simp
    refine Calls.mono (KA.out _ (h.below c2)) ?_
    rintro e W3 ⟨rfl, bb⟩
    have c3 : Below w.heap.size w W3 := c2.trans (bb.mono c2.size)
    have z3 := kept (b := bk) (o := off + 9) bb z2
    have R3 := R2.kept bb
    clear bb
    refine hK.out _ _ (by exact z3) (fun hHeld => ?_)
    clear hK K
    try simp only [Act.put, List.setIfInBounds_toArray, List.set_cons_zero, List.set_cons_succ]
    refine wpAnyH_ready (rs := [7, 9]) (by kernel_rfl) (by simp) ?_
    refine (AllReadyH.cons (o := { dst := some 29, op := Op.call { callee := Callee.value (.func 88), args := #[.tmp 28, .const (.int .i64 16), .const (.int .i64 4)], argTypes := #[28, 3, 3] }, type := 24, pos := "parse.go:160", after := #[{ on := 6, ground := Ground.data }, { on := 5, ground := Ground.chain }], guard := none }) rfl (fun K hK => ?_) (AllReadyH.cons (o := { dst := some 5, op := Op.alloc 26, type := 0, pos := "parse.go:160", after := #[], guard := none }) rfl (fun K hK => ?_) AllReadyH.nil))
    · go_simp
      refine Calls.mono (KB.out _ (h.below c3)) ?_
      rintro e W4 ⟨rfl, bb⟩
      have c4 : Below w.heap.size w W4 := c3.trans (bb.mono c3.size)
      have z4 := kept (b := bk) (o := off + 9) bb z3
      have R4 := R3.kept bb
      clear bb
      refine hK.out _ _ (by exact z4) (fun hHeld => ?_)
      clear hK K
      try simp only [Act.put, List.setIfInBounds_toArray, List.set_cons_zero, List.set_cons_succ]
      refine wpAnyH_take (i := 8) (oi := { dst := some 30, op := Op.build 26 #[(0, .const (.int .i64 4)), (1, .tmp 25), (2, .tmp 27), (3, .tmp 29)], type := 26, pos := "parse.go:160", after := #[{ on := 3, ground := Ground.data }, { on := 5, ground := Ground.data }, { on := 7, ground := Ground.data }], guard := none }) (v := (.agg #[.int .i64 4, .int .i64 x9, .int .i64 sf, .int .u64 sh, .int .u64 sl, .int .i64 df, .int .u64 dh, .int .u64 dl, .int .i64 0, .int .i64 0])) rfl (by kernel_rfl) (by kernel_rfl) (by kernel_rfl) (fun _ _ _ h => h) (yieldsIf_build rfl _ _ rfl #[(0, .int .i64 4), (1, .int .i64 x9), (2, .agg #[.int .i64 sf, .int .u64 sh, .int .u64 sl]), (3, .agg #[.int .i64 df, .int .u64 dh, .int .u64 dl])] (by kernel_rfl) _ (fun w9 => by kernel_rfl)) hHeld ?_
      try simp only [Act.put, List.setIfInBounds_toArray, List.set_cons_zero, List.set_cons_succ]
      refine wpAnyH_ready (rs := [9]) (by kernel_rfl) (by simp) ?_
      refine AllReadyH.cons (o := { dst := some 5, op := Op.alloc 26, type := 0, pos := "parse.go:160", after := #[], guard := none }) rfl (fun K hK => ?_) AllReadyH.nil
      obtain ⟨W5, hA5⟩ : ∃ W, W4.alloc (.cells #[.int .i64 0, .int .i64 0, .int .i64 0, .int .u64 0, .int .u64 0, .int .i64 0, .int .u64 0, .int .u64 0, .int .i64 0, .int .i64 0] 26) = W := ⟨_, rfl⟩
      have c5 : Below w.heap.size w W5 := by rw [← hA5]; exact c4.alloc c4.size _
      have z5 : W5.cell? ⟨bk, off + 9, none⟩ = some (.int .u8 x9) := by rw [← hA5]; exact kept_alloc (Below.refl _ _) _ z4
      have R5 := R4.alloc (.cells #[.int .i64 0, .int .i64 0, .int .i64 0, .int .u64 0, .int .u64 0, .int .i64 0, .int .u64 0, .int .u64 0, .int .i64 0, .int .i64 0] 26)
      rw [hA5] at R5
      have N5 : Blk W5 W4.heap.size 26 #[.int .i64 0, .int .i64 0, .int .i64 0, .int .u64 0, .int .u64 0, .int .i64 0, .int .u64 0, .int .u64 0, .int .i64 0, .int .i64 0] := by rw [← hA5]; exact blk_new _ _ _
      obtain ⟨G, hG⟩ : ∃ G, W4.heap.size = G := ⟨_, rfl⟩
      have gG : w.heap.size < G := by rw [← hG]; exact R4.lt
      have nbk : bk ≠ G := by rw [← hG]; exact Nat.ne_of_lt (World.block_lt_of_cell? W4 _ z4)
      go_simp
      rw [hG] at N5
      refine hK.out _ _ (by exact z5) (fun hHeld => ?_)
      clear hK K hA5
      try simp only [Act.put, List.setIfInBounds_toArray, List.set_cons_zero, List.set_cons_succ]
      refine wpAnyH_ready (rs := [10]) (by kernel_rfl) (by simp) ?_
      refine AllReadyH.cons (o := { dst := none, op := Op.store 26 (.tmp 5) (.tmp 30), type := 0, pos := "parse.go:160", after := #[{ on := 9, ground := Ground.data }, { on := 8, ground := Ground.data }, { on := 7, ground := Ground.chain }, { on := 0, ground := Ground.phase }, { on := 1, ground := Ground.phase }, { on := 2, ground := Ground.phase }, { on := 3, ground := Ground.phase }, { on := 4, ground := Ground.phase }, { on := 5, ground := Ground.phase }, { on := 6, ground := Ground.phase }, { on := 7, ground := Ground.phase }, { on := 8, ground := Ground.phase }, { on := 9, ground := Ground.phase }], guard := none }) rfl (fun K hK => ?_) AllReadyH.nil
      refine step_store_blk rfl _ _ _ rfl G #[.int .i64 4, .int .i64 x9, .int .i64 sf, .int .u64 sh, .int .u64 sl, .int .i64 df, .int .u64 dh, .int .u64 dl, .int .i64 0, .int .i64 0] _ (by kernel_rfl) (by kernel_rfl) N5 (by kernel_rfl) (by rfl) (by kernel_rfl) ?_
      refine hK.out _ _ ?_ (fun hHeld => ?_)
      · exact (cell_setRow_other W5 G _ ⟨bk, off + 9, none⟩ nbk).trans z5
      clear hK K
      try simp only [Act.put, List.setIfInBounds_toArray, List.set_cons_zero, List.set_cons_succ]
      refine wpAnyH_done (by kernel_rfl) ?_ _
      refine NoPanic.normal ?_
      have M1 := N5.set #[.int .i64 4, .int .i64 x9, .int .i64 sf, .int .u64 sh, .int .u64 sl, .int .i64 df, .int .u64 dh, .int .u64 dl, .int .i64 0, .int .i64 0]
      have M2 := R5.other (show w.heap.size ≠ G by omega) #[.int .i64 4, .int .i64 x9, .int .i64 sf, .int .u64 sh, .int .u64 sl, .int .i64 df, .int .u64 dh, .int .u64 dl, .int .i64 0, .int .i64 0]
      have m1 := below_setRow c5 (Nat.le_of_lt gG) #[.int .i64 4, .int .i64 x9, .int .i64 sf, .int .u64 sh, .int .u64 sl, .int .i64 df, .int .u64 dh, .int .u64 dl, .int .i64 0, .int .i64 0]
      generalize W5.setRow G #[.int .i64 4, .int .i64 x9, .int .i64 sf, .int .u64 sh, .int .u64 sl, .int .i64 df, .int .u64 dh, .int .u64 dl, .int .i64 0, .int .i64 0] = W8 at *
      go_wp2_with fail
      refine wp_region_noPanic ?_
      refine wp_region_held_drew (S := fun w' => Blk w' G 26 #[.int .i64 4, .int .i64 x9, .int .i64 sf, .int .u64 sh, .int .u64 sl, .int .i64 df, .int .u64 dh, .int .u64 dl, .int .i64 0, .int .i64 0]) (by kernel_rfl) (by exact M1.drew) (fun hHeld => ?_)
      refine wpAnyH_take (i := 0) (oi := { dst := some 31, op := Op.load 26 (.tmp 5), type := 26, pos := "parse.go:161", after := #[], guard := none }) (v := (.agg #[.int .i64 4, .int .i64 x9, .int .i64 sf, .int .u64 sh, .int .u64 sl, .int .i64 df, .int .u64 dh, .int .u64 dl, .int .i64 0, .int .i64 0])) rfl (by kernel_rfl) (by kernel_rfl) (by kernel_rfl) (fun _ _ _ h => h) (yieldsIf_blk rfl _ _ rfl G (by rfl) _ (fun _ hSw => hSw) Try.underlying26 (by kernel_rfl)) hHeld ?_
      try simp only [Act.put, List.setIfInBounds_toArray, List.set_cons_zero, List.set_cons_succ]
      refine wpAnyH_take (i := 1) (oi := { dst := some 32, op := Op.move (.tmp 0), type := 28, pos := "parse.go:161", after := #[], guard := none }) (v := (.slice (some ⟨bk, off, none⟩) b.length dc)) rfl (by kernel_rfl) (by kernel_rfl) (by kernel_rfl) (fun _ _ _ h => h) (Or.inl ⟨by rfl, ?_⟩) hHeld ?_
      · intro w9 hSw
        try dsimp only at hSw
        go_simp
      try simp only [Act.put, List.setIfInBounds_toArray, List.set_cons_zero, List.set_cons_succ]
      refine wpAnyH_take (i := 2) (oi := { dst := some 33, op := Op.move (.tmp 4), type := 3, pos := "parse.go:161", after := #[], guard := none }) (v := (.int .i64 (hh : Int))) rfl (by kernel_rfl) (by kernel_rfl) (by kernel_rfl) (fun _ _ _ h => h) (Or.inl ⟨by rfl, ?_⟩) hHeld ?_
      · intro w9 hSw
        try dsimp only at hSw
        go_simp
      try simp only [Act.put, List.setIfInBounds_toArray, List.set_cons_zero, List.set_cons_succ]
      refine wpAnyH_take (i := 3) (oi := { dst := some 34, op := Op.slice 28 (.tmp 32) (some (.tmp 33)) none none, type := 28, pos := "parse.go:161", after := #[{ on := 1, ground := Ground.data }, { on := 2, ground := Ground.data }], guard := none }) (v := (.slice a3 (b.length - hh) (dc - hh))) rfl (by kernel_rfl) (by kernel_rfl) (by kernel_rfl) (fun _ _ _ h => h) (Or.inl ⟨by rfl, ?_⟩) hHeld ?_
      · intro w9 hSw
        try dsimp only at hSw
        go_simp
        exact H3.out
      try simp only [Act.put, List.setIfInBounds_toArray, List.set_cons_zero, List.set_cons_succ]
      refine wpAnyH_ready (rs := [4]) (by kernel_rfl) (by simp) ?_
      refine AllReadyH.cons (o := { dst := some 35, op := Op.call { callee := Callee.value (.func 82), args := #[.tmp 31, .tmp 34], argTypes := #[26, 28] }, type := 26, pos := "parse.go:161", after := #[{ on := 0, ground := Ground.data }, { on := 3, ground := Ground.data }], guard := none }) rfl (fun K hK => ?_) AllReadyH.nil
      go_simp
      refine Calls.mono (KP.out _ (h.below m1.drew)) ?_
      rintro e W9 ⟨rfl, bb⟩
      have M9 := M1.drew.kept bb
      have M9' := M2.drew.kept bb
      have m9 : Below w.heap.size w W9 := m1.drew.trans (bb.mono m1.drew.size)
      refine hK.out _ _ ?_ (fun hHeld => ?_)
      · exact M9
      clear hK K
      try simp only [Act.put, List.setIfInBounds_toArray, List.set_cons_zero, List.set_cons_succ]
      refine wpAnyH_ready (rs := [5]) (by kernel_rfl) (by simp) ?_
      refine AllReadyH.cons (o := { dst := none, op := Op.store 26 (.tmp 2) (.tmp 35), type := 0, pos := "parse.go:161", after := #[{ on := 4, ground := Ground.data }, { on := 4, ground := Ground.chain }, { on := 0, ground := Ground.phase }, { on := 1, ground := Ground.phase }, { on := 2, ground := Ground.phase }, { on := 3, ground := Ground.phase }, { on := 4, ground := Ground.phase }], guard := none }) rfl (fun K hK => ?_) AllReadyH.nil
      refine step_store_blk rfl _ _ _ rfl w.heap.size #[.int .i64 4, .int .i64 x9, .int .i64 sf, .int .u64 sh, .int .u64 sl, .int .i64 df, .int .u64 dh, .int .u64 dl, .int .i64 V.1, .int .i64 V.2] _ (by kernel_rfl) (by kernel_rfl) M9' (by kernel_rfl) (by rfl) (by kernel_rfl) ?_
      refine hK.out _ _ ?_ (fun hHeld => ?_)
      · exact M9.other (show G ≠ w.heap.size by omega) _
      clear hK K
      try simp only [Act.put, List.setIfInBounds_toArray, List.set_cons_zero, List.set_cons_succ]
      refine wpAnyH_take (i := 6) (oi := { dst := some 3, op := Op.assign (.const (.bool true)), type := 4, pos := "parse.go:161", after := #[{ on := 5, ground := Ground.chain }, { on := 0, ground := Ground.phase }, { on := 1, ground := Ground.phase }, { on := 2, ground := Ground.phase }, { on := 3, ground := Ground.phase }, { on := 4, ground := Ground.phase }, { on := 5, ground := Ground.phase }], guard := none }) (v := (.bool true)) rfl (by kernel_rfl) (by kernel_rfl) (by kernel_rfl) (fun _ _ _ h => h) (Or.inl ⟨by rfl, ?_⟩) hHeld ?_
      · intro w9 hSw
        try dsimp only at hSw
        go_simp
      try simp only [Act.put, List.setIfInBounds_toArray, List.set_cons_zero, List.set_cons_succ]
      refine wpAnyH_done (by kernel_rfl) ?_ _
      refine NoPanic.normal ?_
      have Bf := M9'.set #[.int .i64 4, .int .i64 x9, .int .i64 sf, .int .u64 sh, .int .u64 sl, .int .i64 df, .int .u64 dh, .int .u64 dl, .int .i64 V.1, .int .i64 V.2]
      have bf := below_setRow m9 (Nat.le_refl _) #[.int .i64 4, .int .i64 x9, .int .i64 sf, .int .u64 sh, .int .u64 sl, .int .i64 df, .int .u64 dh, .int .u64 dl, .int .i64 V.1, .int .i64 V.2]
      go_wp2_with fail
      exact ret_cell_tmp (k := 2) (j := 3) Try.f84 (by kernel_rfl) Bf Try.underlying26 (by kernel_rfl) (by rfl) (by rfl) rfl ⟨rfl, bf⟩
    · obtain ⟨W4, hA4⟩ : ∃ W, W3.alloc (.cells #[.int .i64 0, .int .i64 0, .int .i64 0, .int .u64 0, .int .u64 0, .int .i64 0, .int .u64 0, .int .u64 0, .int .i64 0, .int .i64 0] 26) = W := ⟨_, rfl⟩
      have c4 : Below w.heap.size w W4 := by rw [← hA4]; exact c3.alloc c3.size _
      have z4 : W4.cell? ⟨bk, off + 9, none⟩ = some (.int .u8 x9) := by rw [← hA4]; exact kept_alloc (Below.refl _ _) _ z3
      have R4 := R3.alloc (.cells #[.int .i64 0, .int .i64 0, .int .i64 0, .int .u64 0, .int .u64 0, .int .i64 0, .int .u64 0, .int .u64 0, .int .i64 0, .int .i64 0] 26)
      rw [hA4] at R4
      have N4 : Blk W4 W3.heap.size 26 #[.int .i64 0, .int .i64 0, .int .i64 0, .int .u64 0, .int .u64 0, .int .i64 0, .int .u64 0, .int .u64 0, .int .i64 0, .int .i64 0] := by rw [← hA4]; exact blk_new _ _ _
      obtain ⟨G, hG⟩ : ∃ G, W3.heap.size = G := ⟨_, rfl⟩
      have gG : w.heap.size < G := by rw [← hG]; exact R3.lt
      have nbk : bk ≠ G := by rw [← hG]; exact Nat.ne_of_lt (World.block_lt_of_cell? W3 _ z3)
      go_simp
      rw [hG] at N4
      refine hK.out _ _ (by exact z4) (fun hHeld => ?_)
      clear hK K hA4
      try simp only [Act.put, List.setIfInBounds_toArray, List.set_cons_zero, List.set_cons_succ]
      refine wpAnyH_ready (rs := [7]) (by kernel_rfl) (by simp) ?_
      refine AllReadyH.cons (o := { dst := some 29, op := Op.call { callee := Callee.value (.func 88), args := #[.tmp 28, .const (.int .i64 16), .const (.int .i64 4)], argTypes := #[28, 3, 3] }, type := 24, pos := "parse.go:160", after := #[{ on := 6, ground := Ground.data }, { on := 5, ground := Ground.chain }], guard := none }) rfl (fun K hK => ?_) AllReadyH.nil
      go_simp
      refine Calls.mono (KB.out _ (h.below c4)) ?_
      rintro e W5 ⟨rfl, bb⟩
      have c5 : Below w.heap.size w W5 := c4.trans (bb.mono c4.size)
      have z5 := kept (b := bk) (o := off + 9) bb z4
      have R5 := R4.kept bb
      have N5 := N4.kept bb
      clear bb
      refine hK.out _ _ (by exact z5) (fun hHeld => ?_)
      clear hK K
      try simp only [Act.put, List.setIfInBounds_toArray, List.set_cons_zero, List.set_cons_succ]
      refine wpAnyH_take (i := 8) (oi := { dst := some 30, op := Op.build 26 #[(0, .const (.int .i64 4)), (1, .tmp 25), (2, .tmp 27), (3, .tmp 29)], type := 26, pos := "parse.go:160", after := #[{ on := 3, ground := Ground.data }, { on := 5, ground := Ground.data }, { on := 7, ground := Ground.data }], guard := none }) (v := (.agg #[.int .i64 4, .int .i64 x9, .int .i64 sf, .int .u64 sh, .int .u64 sl, .int .i64 df, .int .u64 dh, .int .u64 dl, .int .i64 0, .int .i64 0])) rfl (by kernel_rfl) (by kernel_rfl) (by kernel_rfl) (fun _ _ _ h => h) (yieldsIf_build rfl _ _ rfl #[(0, .int .i64 4), (1, .int .i64 x9), (2, .agg #[.int .i64 sf, .int .u64 sh, .int .u64 sl]), (3, .agg #[.int .i64 df, .int .u64 dh, .int .u64 dl])] (by kernel_rfl) _ (fun w9 => by kernel_rfl)) hHeld ?_
      try simp only [Act.put, List.setIfInBounds_toArray, List.set_cons_zero, List.set_cons_succ]
      refine wpAnyH_ready (rs := [10]) (by kernel_rfl) (by simp) ?_
      refine AllReadyH.cons (o := { dst := none, op := Op.store 26 (.tmp 5) (.tmp 30), type := 0, pos := "parse.go:160", after := #[{ on := 9, ground := Ground.data }, { on := 8, ground := Ground.data }, { on := 7, ground := Ground.chain }, { on := 0, ground := Ground.phase }, { on := 1, ground := Ground.phase }, { on := 2, ground := Ground.phase }, { on := 3, ground := Ground.phase }, { on := 4, ground := Ground.phase }, { on := 5, ground := Ground.phase }, { on := 6, ground := Ground.phase }, { on := 7, ground := Ground.phase }, { on := 8, ground := Ground.phase }, { on := 9, ground := Ground.phase }], guard := none }) rfl (fun K hK => ?_) AllReadyH.nil
      refine step_store_blk rfl _ _ _ rfl G #[.int .i64 4, .int .i64 x9, .int .i64 sf, .int .u64 sh, .int .u64 sl, .int .i64 df, .int .u64 dh, .int .u64 dl, .int .i64 0, .int .i64 0] _ (by kernel_rfl) (by kernel_rfl) N5 (by kernel_rfl) (by rfl) (by kernel_rfl) ?_
      refine hK.out _ _ ?_ (fun hHeld => ?_)
      · exact (cell_setRow_other W5 G _ ⟨bk, off + 9, none⟩ nbk).trans z5
      clear hK K
      try simp only [Act.put, List.setIfInBounds_toArray, List.set_cons_zero, List.set_cons_succ]
      refine wpAnyH_done (by kernel_rfl) ?_ _
      refine NoPanic.normal ?_
      have M1 := N5.set #[.int .i64 4, .int .i64 x9, .int .i64 sf, .int .u64 sh, .int .u64 sl, .int .i64 df, .int .u64 dh, .int .u64 dl, .int .i64 0, .int .i64 0]
      have M2 := R5.other (show w.heap.size ≠ G by omega) #[.int .i64 4, .int .i64 x9, .int .i64 sf, .int .u64 sh, .int .u64 sl, .int .i64 df, .int .u64 dh, .int .u64 dl, .int .i64 0, .int .i64 0]
      have m1 := below_setRow c5 (Nat.le_of_lt gG) #[.int .i64 4, .int .i64 x9, .int .i64 sf, .int .u64 sh, .int .u64 sl, .int .i64 df, .int .u64 dh, .int .u64 dl, .int .i64 0, .int .i64 0]
      generalize W5.setRow G #[.int .i64 4, .int .i64 x9, .int .i64 sf, .int .u64 sh, .int .u64 sl, .int .i64 df, .int .u64 dh, .int .u64 dl, .int .i64 0, .int .i64 0] = W8 at *
      go_wp2_with fail
      refine wp_region_noPanic ?_
      refine wp_region_held_drew (S := fun w' => Blk w' G 26 #[.int .i64 4, .int .i64 x9, .int .i64 sf, .int .u64 sh, .int .u64 sl, .int .i64 df, .int .u64 dh, .int .u64 dl, .int .i64 0, .int .i64 0]) (by kernel_rfl) (by exact M1.drew) (fun hHeld => ?_)
      refine wpAnyH_take (i := 0) (oi := { dst := some 31, op := Op.load 26 (.tmp 5), type := 26, pos := "parse.go:161", after := #[], guard := none }) (v := (.agg #[.int .i64 4, .int .i64 x9, .int .i64 sf, .int .u64 sh, .int .u64 sl, .int .i64 df, .int .u64 dh, .int .u64 dl, .int .i64 0, .int .i64 0])) rfl (by kernel_rfl) (by kernel_rfl) (by kernel_rfl) (fun _ _ _ h => h) (yieldsIf_blk rfl _ _ rfl G (by rfl) _ (fun _ hSw => hSw) Try.underlying26 (by kernel_rfl)) hHeld ?_
      try simp only [Act.put, List.setIfInBounds_toArray, List.set_cons_zero, List.set_cons_succ]
      refine wpAnyH_take (i := 1) (oi := { dst := some 32, op := Op.move (.tmp 0), type := 28, pos := "parse.go:161", after := #[], guard := none }) (v := (.slice (some ⟨bk, off, none⟩) b.length dc)) rfl (by kernel_rfl) (by kernel_rfl) (by kernel_rfl) (fun _ _ _ h => h) (Or.inl ⟨by rfl, ?_⟩) hHeld ?_
      · intro w9 hSw
        try dsimp only at hSw
        go_simp
      try simp only [Act.put, List.setIfInBounds_toArray, List.set_cons_zero, List.set_cons_succ]
      refine wpAnyH_take (i := 2) (oi := { dst := some 33, op := Op.move (.tmp 4), type := 3, pos := "parse.go:161", after := #[], guard := none }) (v := (.int .i64 (hh : Int))) rfl (by kernel_rfl) (by kernel_rfl) (by kernel_rfl) (fun _ _ _ h => h) (Or.inl ⟨by rfl, ?_⟩) hHeld ?_
      · intro w9 hSw
        try dsimp only at hSw
        go_simp
      try simp only [Act.put, List.setIfInBounds_toArray, List.set_cons_zero, List.set_cons_succ]
      refine wpAnyH_take (i := 3) (oi := { dst := some 34, op := Op.slice 28 (.tmp 32) (some (.tmp 33)) none none, type := 28, pos := "parse.go:161", after := #[{ on := 1, ground := Ground.data }, { on := 2, ground := Ground.data }], guard := none }) (v := (.slice a3 (b.length - hh) (dc - hh))) rfl (by kernel_rfl) (by kernel_rfl) (by kernel_rfl) (fun _ _ _ h => h) (Or.inl ⟨by rfl, ?_⟩) hHeld ?_
      · intro w9 hSw
        try dsimp only at hSw
        go_simp
        exact H3.out
      try simp only [Act.put, List.setIfInBounds_toArray, List.set_cons_zero, List.set_cons_succ]
      refine wpAnyH_ready (rs := [4]) (by kernel_rfl) (by simp) ?_
      refine AllReadyH.cons (o := { dst := some 35, op := Op.call { callee := Callee.value (.func 82), args := #[.tmp 31, .tmp 34], argTypes := #[26, 28] }, type := 26, pos := "parse.go:161", after := #[{ on := 0, ground := Ground.data }, { on := 3, ground := Ground.data }], guard := none }) rfl (fun K hK => ?_) AllReadyH.nil
      go_simp
      refine Calls.mono (KP.out _ (h.below m1.drew)) ?_
      rintro e W9 ⟨rfl, bb⟩
      have M9 := M1.drew.kept bb
      have M9' := M2.drew.kept bb
      have m9 : Below w.heap.size w W9 := m1.drew.trans (bb.mono m1.drew.size)
      refine hK.out _ _ ?_ (fun hHeld => ?_)
      · exact M9
      clear hK K
      try simp only [Act.put, List.setIfInBounds_toArray, List.set_cons_zero, List.set_cons_succ]
      refine wpAnyH_ready (rs := [5]) (by kernel_rfl) (by simp) ?_
      refine AllReadyH.cons (o := { dst := none, op := Op.store 26 (.tmp 2) (.tmp 35), type := 0, pos := "parse.go:161", after := #[{ on := 4, ground := Ground.data }, { on := 4, ground := Ground.chain }, { on := 0, ground := Ground.phase }, { on := 1, ground := Ground.phase }, { on := 2, ground := Ground.phase }, { on := 3, ground := Ground.phase }, { on := 4, ground := Ground.phase }], guard := none }) rfl (fun K hK => ?_) AllReadyH.nil
      refine step_store_blk rfl _ _ _ rfl w.heap.size #[.int .i64 4, .int .i64 x9, .int .i64 sf, .int .u64 sh, .int .u64 sl, .int .i64 df, .int .u64 dh, .int .u64 dl, .int .i64 V.1, .int .i64 V.2] _ (by kernel_rfl) (by kernel_rfl) M9' (by kernel_rfl) (by rfl) (by kernel_rfl) ?_
      refine hK.out _ _ ?_ (fun hHeld => ?_)
      · exact M9.other (show G ≠ w.heap.size by omega) _
      clear hK K
      try simp only [Act.put, List.setIfInBounds_toArray, List.set_cons_zero, List.set_cons_succ]
      refine wpAnyH_take (i := 6) (oi := { dst := some 3, op := Op.assign (.const (.bool true)), type := 4, pos := "parse.go:161", after := #[{ on := 5, ground := Ground.chain }, { on := 0, ground := Ground.phase }, { on := 1, ground := Ground.phase }, { on := 2, ground := Ground.phase }, { on := 3, ground := Ground.phase }, { on := 4, ground := Ground.phase }, { on := 5, ground := Ground.phase }], guard := none }) (v := (.bool true)) rfl (by kernel_rfl) (by kernel_rfl) (by kernel_rfl) (fun _ _ _ h => h) (Or.inl ⟨by rfl, ?_⟩) hHeld ?_
      · intro w9 hSw
        try dsimp only at hSw
        go_simp
      try simp only [Act.put, List.setIfInBounds_toArray, List.set_cons_zero, List.set_cons_succ]
      refine wpAnyH_done (by kernel_rfl) ?_ _
      refine NoPanic.normal ?_
      have Bf := M9'.set #[.int .i64 4, .int .i64 x9, .int .i64 sf, .int .u64 sh, .int .u64 sl, .int .i64 df, .int .u64 dh, .int .u64 dl, .int .i64 V.1, .int .i64 V.2]
      have bf := below_setRow m9 (Nat.le_refl _) #[.int .i64 4, .int .i64 x9, .int .i64 sf, .int .u64 sh, .int .u64 sl, .int .i64 df, .int .u64 dh, .int .u64 dl, .int .i64 V.1, .int .i64 V.2]
      go_wp2_with fail
      exact ret_cell_tmp (k := 2) (j := 3) Try.f84 (by kernel_rfl) Bf Try.underlying26 (by kernel_rfl) (by rfl) (by rfl) rfl ⟨rfl, bf⟩
  · obtain ⟨W3, hA3⟩ : ∃ W, W2.alloc (.cells #[.int .i64 0, .int .i64 0, .int .i64 0, .int .u64 0, .int .u64 0, .int .i64 0, .int .u64 0, .int .u64 0, .int .i64 0, .int .i64 0] 26) = W := ⟨_, rfl⟩
    have c3 : Below w.heap.size w W3 := by rw [← hA3]; exact c2.alloc c2.size _
    have z3 : W3.cell? ⟨bk, off + 9, none⟩ = some (.int .u8 x9) := by rw [← hA3]; exact kept_alloc (Below.refl _ _) _ z2
    have R3 := R2.alloc (.cells #[.int .i64 0, .int .i64 0, .int .i64 0, .int .u64 0, .int .u64 0, .int .i64 0, .int .u64 0, .int .u64 0, .int .i64 0, .int .i64 0] 26)
    rw [hA3] at R3
    have N3 : Blk W3 W2.heap.size 26 #[.int .i64 0, .int .i64 0, .int .i64 0, .int .u64 0, .int .u64 0, .int .i64 0, .int .u64 0, .int .u64 0, .int .i64 0, .int .i64 0] := by rw [← hA3]; exact blk_new _ _ _
    obtain ⟨G, hG⟩ : ∃ G, W2.heap.size = G := ⟨_, rfl⟩
    have gG : w.heap.size < G := by rw [← hG]; exact R2.lt
    have nbk : bk ≠ G := by rw [← hG]; exact Nat.ne_of_lt (World.block_lt_of_cell? W2 _ z2)
    go_simp
    rw [hG] at N3
    refine hK.out _ _ (by exact z3) (fun hHeld => ?_)
    clear hK K hA3
    try simp only [Act.put, List.setIfInBounds_toArray, List.set_cons_zero, List.set_cons_succ]
    refine wpAnyH_ready (rs := [5]) (by kernel_rfl) (by simp) ?_
    refine AllReadyH.cons (o := { dst := some 27, op := Op.call { callee := Callee.value (.func 88), args := #[.tmp 26, .const (.int .i64 12), .const (.int .i64 4)], argTypes := #[28, 3, 3] }, type := 24, pos := "parse.go:160", after := #[{ on := 4, ground := Ground.data }], guard := none }) rfl (fun K hK => ?_) AllReadyH.nil
    go_simp
    refine Calls.mono (KA.out _ (h.below c3)) ?_
    rintro e W4 ⟨rfl, bb⟩
    have c4 : Below w.heap.size w W4 := c3.trans (bb.mono c3.size)
    have z4 := kept (b := bk) (o := off + 9) bb z3
    have R4 := R3.kept bb
    have N4 := N3.kept bb
    clear bb
    refine hK.out _ _ (by exact z4) (fun hHeld => ?_)
    clear hK K
    try simp only [Act.put, List.setIfInBounds_toArray, List.set_cons_zero, List.set_cons_succ]
    refine wpAnyH_ready (rs := [7]) (by kernel_rfl) (by simp) ?_
    refine AllReadyH.cons (o := { dst := some 29, op := Op.call { callee := Callee.value (.func 88), args := #[.tmp 28, .const (.int .i64 16), .const (.int .i64 4)], argTypes := #[28, 3, 3] }, type := 24, pos := "parse.go:160", after := #[{ on := 6, ground := Ground.data }, { on := 5, ground := Ground.chain }], guard := none }) rfl (fun K hK => ?_) AllReadyH.nil
    go_simp
    refine Calls.mono (KB.out _ (h.below c4)) ?_
    rintro e W5 ⟨rfl, bb⟩
    have c5 : Below w.heap.size w W5 := c4.trans (bb.mono c4.size)
    have z5 := kept (b := bk) (o := off + 9) bb z4
    have R5 := R4.kept bb
    have N5 := N4.kept bb
    clear bb
    refine hK.out _ _ (by exact z5) (fun hHeld => ?_)
    clear hK K
    try simp only [Act.put, List.setIfInBounds_toArray, List.set_cons_zero, List.set_cons_succ]
    refine wpAnyH_take (i := 8) (oi := { dst := some 30, op := Op.build 26 #[(0, .const (.int .i64 4)), (1, .tmp 25), (2, .tmp 27), (3, .tmp 29)], type := 26, pos := "parse.go:160", after := #[{ on := 3, ground := Ground.data }, { on := 5, ground := Ground.data }, { on := 7, ground := Ground.data }], guard := none }) (v := (.agg #[.int .i64 4, .int .i64 x9, .int .i64 sf, .int .u64 sh, .int .u64 sl, .int .i64 df, .int .u64 dh, .int .u64 dl, .int .i64 0, .int .i64 0])) rfl (by kernel_rfl) (by kernel_rfl) (by kernel_rfl) (fun _ _ _ h => h) (yieldsIf_build rfl _ _ rfl #[(0, .int .i64 4), (1, .int .i64 x9), (2, .agg #[.int .i64 sf, .int .u64 sh, .int .u64 sl]), (3, .agg #[.int .i64 df, .int .u64 dh, .int .u64 dl])] (by kernel_rfl) _ (fun w9 => by kernel_rfl)) hHeld ?_
    try simp only [Act.put, List.setIfInBounds_toArray, List.set_cons_zero, List.set_cons_succ]
    refine wpAnyH_ready (rs := [10]) (by kernel_rfl) (by simp) ?_
    refine AllReadyH.cons (o := { dst := none, op := Op.store 26 (.tmp 5) (.tmp 30), type := 0, pos := "parse.go:160", after := #[{ on := 9, ground := Ground.data }, { on := 8, ground := Ground.data }, { on := 7, ground := Ground.chain }, { on := 0, ground := Ground.phase }, { on := 1, ground := Ground.phase }, { on := 2, ground := Ground.phase }, { on := 3, ground := Ground.phase }, { on := 4, ground := Ground.phase }, { on := 5, ground := Ground.phase }, { on := 6, ground := Ground.phase }, { on := 7, ground := Ground.phase }, { on := 8, ground := Ground.phase }, { on := 9, ground := Ground.phase }], guard := none }) rfl (fun K hK => ?_) AllReadyH.nil
    refine step_store_blk rfl _ _ _ rfl G #[.int .i64 4, .int .i64 x9, .int .i64 sf, .int .u64 sh, .int .u64 sl, .int .i64 df, .int .u64 dh, .int .u64 dl, .int .i64 0, .int .i64 0] _ (by kernel_rfl) (by kernel_rfl) N5 (by kernel_rfl) (by rfl) (by kernel_rfl) ?_
    refine hK.out _ _ ?_ (fun hHeld => ?_)
    · exact (cell_setRow_other W5 G _ ⟨bk, off + 9, none⟩ nbk).trans z5
    clear hK K
    try simp only [Act.put, List.setIfInBounds_toArray, List.set_cons_zero, List.set_cons_succ]
    refine wpAnyH_done (by kernel_rfl) ?_ _
    refine NoPanic.normal ?_
    have M1 := N5.set #[.int .i64 4, .int .i64 x9, .int .i64 sf, .int .u64 sh, .int .u64 sl, .int .i64 df, .int .u64 dh, .int .u64 dl, .int .i64 0, .int .i64 0]
    have M2 := R5.other (show w.heap.size ≠ G by omega) #[.int .i64 4, .int .i64 x9, .int .i64 sf, .int .u64 sh, .int .u64 sl, .int .i64 df, .int .u64 dh, .int .u64 dl, .int .i64 0, .int .i64 0]
    have m1 := below_setRow c5 (Nat.le_of_lt gG) #[.int .i64 4, .int .i64 x9, .int .i64 sf, .int .u64 sh, .int .u64 sl, .int .i64 df, .int .u64 dh, .int .u64 dl, .int .i64 0, .int .i64 0]
    generalize W5.setRow G #[.int .i64 4, .int .i64 x9, .int .i64 sf, .int .u64 sh, .int .u64 sl, .int .i64 df, .int .u64 dh, .int .u64 dl, .int .i64 0, .int .i64 0] = W8 at *
    go_wp2_with fail
    refine wp_region_noPanic ?_
    refine wp_region_held_drew (S := fun w' => Blk w' G 26 #[.int .i64 4, .int .i64 x9, .int .i64 sf, .int .u64 sh, .int .u64 sl, .int .i64 df, .int .u64 dh, .int .u64 dl, .int .i64 0, .int .i64 0]) (by kernel_rfl) (by exact M1.drew) (fun hHeld => ?_)
    refine wpAnyH_take (i := 0) (oi := { dst := some 31, op := Op.load 26 (.tmp 5), type := 26, pos := "parse.go:161", after := #[], guard := none }) (v := (.agg #[.int .i64 4, .int .i64 x9, .int .i64 sf, .int .u64 sh, .int .u64 sl, .int .i64 df, .int .u64 dh, .int .u64 dl, .int .i64 0, .int .i64 0])) rfl (by kernel_rfl) (by kernel_rfl) (by kernel_rfl) (fun _ _ _ h => h) (yieldsIf_blk rfl _ _ rfl G (by rfl) _ (fun _ hSw => hSw) Try.underlying26 (by kernel_rfl)) hHeld ?_
    try simp only [Act.put, List.setIfInBounds_toArray, List.set_cons_zero, List.set_cons_succ]
    refine wpAnyH_take (i := 1) (oi := { dst := some 32, op := Op.move (.tmp 0), type := 28, pos := "parse.go:161", after := #[], guard := none }) (v := (.slice (some ⟨bk, off, none⟩) b.length dc)) rfl (by kernel_rfl) (by kernel_rfl) (by kernel_rfl) (fun _ _ _ h => h) (Or.inl ⟨by rfl, ?_⟩) hHeld ?_
    · intro w9 hSw
      try dsimp only at hSw
      go_simp
    try simp only [Act.put, List.setIfInBounds_toArray, List.set_cons_zero, List.set_cons_succ]
    refine wpAnyH_take (i := 2) (oi := { dst := some 33, op := Op.move (.tmp 4), type := 3, pos := "parse.go:161", after := #[], guard := none }) (v := (.int .i64 (hh : Int))) rfl (by kernel_rfl) (by kernel_rfl) (by kernel_rfl) (fun _ _ _ h => h) (Or.inl ⟨by rfl, ?_⟩) hHeld ?_
    · intro w9 hSw
      try dsimp only at hSw
      go_simp
    try simp only [Act.put, List.setIfInBounds_toArray, List.set_cons_zero, List.set_cons_succ]
    refine wpAnyH_take (i := 3) (oi := { dst := some 34, op := Op.slice 28 (.tmp 32) (some (.tmp 33)) none none, type := 28, pos := "parse.go:161", after := #[{ on := 1, ground := Ground.data }, { on := 2, ground := Ground.data }], guard := none }) (v := (.slice a3 (b.length - hh) (dc - hh))) rfl (by kernel_rfl) (by kernel_rfl) (by kernel_rfl) (fun _ _ _ h => h) (Or.inl ⟨by rfl, ?_⟩) hHeld ?_
    · intro w9 hSw
      try dsimp only at hSw
      go_simp
      exact H3.out
    try simp only [Act.put, List.setIfInBounds_toArray, List.set_cons_zero, List.set_cons_succ]
    refine wpAnyH_ready (rs := [4]) (by kernel_rfl) (by simp) ?_
    refine AllReadyH.cons (o := { dst := some 35, op := Op.call { callee := Callee.value (.func 82), args := #[.tmp 31, .tmp 34], argTypes := #[26, 28] }, type := 26, pos := "parse.go:161", after := #[{ on := 0, ground := Ground.data }, { on := 3, ground := Ground.data }], guard := none }) rfl (fun K hK => ?_) AllReadyH.nil
    go_simp
    refine Calls.mono (KP.out _ (h.below m1.drew)) ?_
    rintro e W9 ⟨rfl, bb⟩
    have M9 := M1.drew.kept bb
    have M9' := M2.drew.kept bb
    have m9 : Below w.heap.size w W9 := m1.drew.trans (bb.mono m1.drew.size)
    refine hK.out _ _ ?_ (fun hHeld => ?_)
    · exact M9
    clear hK K
    try simp only [Act.put, List.setIfInBounds_toArray, List.set_cons_zero, List.set_cons_succ]
    refine wpAnyH_ready (rs := [5]) (by kernel_rfl) (by simp) ?_
    refine AllReadyH.cons (o := { dst := none, op := Op.store 26 (.tmp 2) (.tmp 35), type := 0, pos := "parse.go:161", after := #[{ on := 4, ground := Ground.data }, { on := 4, ground := Ground.chain }, { on := 0, ground := Ground.phase }, { on := 1, ground := Ground.phase }, { on := 2, ground := Ground.phase }, { on := 3, ground := Ground.phase }, { on := 4, ground := Ground.phase }], guard := none }) rfl (fun K hK => ?_) AllReadyH.nil
    refine step_store_blk rfl _ _ _ rfl w.heap.size #[.int .i64 4, .int .i64 x9, .int .i64 sf, .int .u64 sh, .int .u64 sl, .int .i64 df, .int .u64 dh, .int .u64 dl, .int .i64 V.1, .int .i64 V.2] _ (by kernel_rfl) (by kernel_rfl) M9' (by kernel_rfl) (by rfl) (by kernel_rfl) ?_
    refine hK.out _ _ ?_ (fun hHeld => ?_)
    · exact M9.other (show G ≠ w.heap.size by omega) _
    clear hK K
    try simp only [Act.put, List.setIfInBounds_toArray, List.set_cons_zero, List.set_cons_succ]
    refine wpAnyH_take (i := 6) (oi := { dst := some 3, op := Op.assign (.const (.bool true)), type := 4, pos := "parse.go:161", after := #[{ on := 5, ground := Ground.chain }, { on := 0, ground := Ground.phase }, { on := 1, ground := Ground.phase }, { on := 2, ground := Ground.phase }, { on := 3, ground := Ground.phase }, { on := 4, ground := Ground.phase }, { on := 5, ground := Ground.phase }], guard := none }) (v := (.bool true)) rfl (by kernel_rfl) (by kernel_rfl) (by kernel_rfl) (fun _ _ _ h => h) (Or.inl ⟨by rfl, ?_⟩) hHeld ?_
    · intro w9 hSw
      try dsimp only at hSw
      go_simp
    try simp only [Act.put, List.setIfInBounds_toArray, List.set_cons_zero, List.set_cons_succ]
    refine wpAnyH_done (by kernel_rfl) ?_ _
    refine NoPanic.normal ?_
    have Bf := M9'.set #[.int .i64 4, .int .i64 x9, .int .i64 sf, .int .u64 sh, .int .u64 sl, .int .i64 df, .int .u64 dh, .int .u64 dl, .int .i64 V.1, .int .i64 V.2]
    have bf := below_setRow m9 (Nat.le_refl _) #[.int .i64 4, .int .i64 x9, .int .i64 sf, .int .u64 sh, .int .u64 sl, .int .i64 df, .int .u64 dh, .int .u64 dl, .int .i64 V.1, .int .i64 V.2]
    go_wp2_with fail
    exact ret_cell_tmp (k := 2) (j := 3) Try.f84 (by kernel_rfl) Bf Try.underlying26 (by kernel_rfl) (by rfl) (by rfl) rfl ⟨rfl, bf⟩

end Go.Proofs.Ytgdpcomcndidcaa
