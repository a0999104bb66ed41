/- Texts joined: SgRu -/
import Derived.Test.YtpjjkdgmfjhfiaaSgrR29
namespace Go.Proofs.Ytpjjkdgmfjhfiaa
abbrev sgrR30o0 : Oper := { dst := some 52, op := Op.call { callee := Callee.value (.func 12), args := #[.tmp 48, .tmp 50, .const (.int .i64 17), .tmp 51], argTypes := #[24, 24, 3, 3] }, type := 28, pos := "ref.go:154", after := #[{ on := 12, ground := Ground.data }, { on := 14, ground := Ground.data }, { on := 15, ground := Ground.data }, { on := 10, ground := Ground.chain }, { on := 10, ground := Ground.guard }], guard := some (10, true) }
abbrev sgrR30o1 : Oper := { dst := some 57, op := Op.call { callee := Callee.value (.func 46), args := #[.tmp 56], argTypes := #[74] }, type := 3, pos := "ref.go:154", after := #[{ on := 20, ground := Ground.data }, { on := 16, ground := Ground.chain }, { on := 10, ground := Ground.guard }], guard := some (10, true) }
abbrev sgrR30o2 : Oper := { dst := some 56, op := Op.buildSlice 74 2 #[(0, .tmp 52), (1, .tmp 55)], type := 74, pos := "ref.go:154", after := #[{ on := 16, ground := Ground.data }, { on := 19, ground := Ground.data }, { on := 10, ground := Ground.guard }], guard := some (10, true) }
abbrev sgrR30o3 : Oper := { dst := some 55, op := Op.slice 28 (.tmp 53) none (some (.tmp 54)) none, type := 28, pos := "ref.go:154", after := #[{ on := 17, ground := Ground.data }, { on := 18, ground := Ground.data }, { on := 10, ground := Ground.guard }], guard := some (10, true) }
abbrev sgrR30o4 : Oper := { dst := some 59, op := Op.pick (.tmp 46) (.tmp 58) (.const (.bool false)), type := 4, pos := "ref.go:154", after := #[{ on := 10, ground := Ground.data }, { on := 22, ground := Ground.data }, { on := 7, ground := Ground.guard }], guard := some (7, false) }
abbrev sgrR30o5 : Oper := { dst := some 58, op := Op.binOp BinOp.neq 3 (.tmp 57) (.const (.int .i64 65535)) 3, type := 4, pos := "ref.go:154", after := #[{ on := 21, ground := Ground.data }, { on := 10, ground := Ground.guard }], guard := some (10, true) }
abbrev sgrR30o6 : Oper := { dst := some 45, op := Op.binOp BinOp.neq 3 (.tmp 44) (.const (.int .i64 0)) 3, type := 4, pos := "ref.go:154", after := #[{ on := 8, ground := Ground.data }, { on := 7, ground := Ground.guard }], guard := some (7, false) }
abbrev sgrR30o7 : Oper := { dst := some 41, op := Op.binOp BinOp.eql 3 (.tmp 40) (.const (.int .i64 6)) 3, type := 4, pos := "ref.go:154", after := #[{ on := 4, ground := Ground.data }, { on := 2, ground := Ground.guard }], guard := some (2, true) }
abbrev sgrR30o8 : Oper := { dst := some 46, op := Op.move (.tmp 45), type := 4, pos := "ref.go:154", after := #[{ on := 9, ground := Ground.data }, { on := 7, ground := Ground.chain }, { on := 7, ground := Ground.guard }], guard := some (7, false) }
abbrev sgrR30o9 : Oper := { dst := some 42, op := Op.pick (.tmp 38) (.tmp 41) (.const (.bool false)), type := 4, pos := "ref.go:154", after := #[{ on := 2, ground := Ground.data }, { on := 5, ground := Ground.data }], guard := none }
abbrev sgrR30o10 : Oper := { dst := some 60, op := Op.pick (.tmp 43) (.const (.bool true)) (.tmp 59), type := 4, pos := "ref.go:154", after := #[{ on := 7, ground := Ground.data }, { on := 23, ground := Ground.data }], guard := none }
abbrev sgrR30o11 : Oper := { dst := some 48, op := Op.load 24 (.tmp 47), type := 24, pos := "ref.go:154", after := #[{ on := 11, ground := Ground.data }, { on := 10, ground := Ground.guard }], guard := some (10, true) }
abbrev sgrR30o12 : Oper := { dst := some 50, op := Op.load 24 (.tmp 49), type := 24, pos := "ref.go:154", after := #[{ on := 13, ground := Ground.data }, { on := 10, ground := Ground.guard }], guard := some (10, true) }
abbrev sgrR30o13 : Oper := { dst := some 40, op := Op.load 3 (.tmp 39), type := 3, pos := "ref.go:154", after := #[{ on := 3, ground := Ground.data }, { on := 2, ground := Ground.guard }], guard := some (2, true) }
abbrev sgrR30o14 : Oper := { dst := some 37, op := Op.binOp BinOp.eql 3 (.tmp 36) (.const (.int .i64 0)) 3, type := 4, pos := "ref.go:154", after := #[{ on := 0, ground := Ground.data }], guard := none }
abbrev sgrR30o15 : Oper := { dst := some 43, op := Op.move (.tmp 42), type := 4, pos := "ref.go:154", after := #[{ on := 6, ground := Ground.data }, { on := 2, ground := Ground.chain }], guard := none }
abbrev sgrR30o16 : Oper := { dst := some 47, op := Op.fieldAddr 36 (.tmp 2) 1, type := 0, pos := "ref.go:154", after := #[{ on := 10, ground := Ground.guard }], guard := some (10, true) }
abbrev sgrR30o17 : Oper := { dst := some 49, op := Op.fieldAddr 36 (.tmp 2) 2, type := 0, pos := "ref.go:154", after := #[{ on := 10, ground := Ground.guard }], guard := some (10, true) }
abbrev sgrR30o18 : Oper := { dst := some 39, op := Op.fieldAddr 36 (.tmp 2) 0, type := 0, pos := "ref.go:154", after := #[{ on := 2, ground := Ground.guard }], guard := some (2, true) }
abbrev sgrR30o19 : Oper := { dst := some 53, op := Op.move (.tmp 6), type := 28, pos := "ref.go:154", after := #[{ on := 10, ground := Ground.guard }], guard := some (10, true) }
abbrev sgrR30o20 : Oper := { dst := some 51, op := Op.move (.tmp 7), type := 3, pos := "ref.go:154", after := #[{ on := 10, ground := Ground.guard }], guard := some (10, true) }
abbrev sgrR30o21 : Oper := { dst := some 54, op := Op.move (.tmp 7), type := 3, pos := "ref.go:154", after := #[{ on := 10, ground := Ground.guard }], guard := some (10, true) }
abbrev sgrR30o22 : Oper := { dst := some 44, op := Op.move (.tmp 9), type := 3, pos := "ref.go:154", after := #[{ on := 7, ground := Ground.guard }], guard := some (7, false) }
abbrev sgrR30o23 : Oper := { dst := some 38, op := Op.move (.tmp 37), type := 4, pos := "ref.go:154", after := #[{ on := 1, ground := Ground.data }], guard := none }
abbrev sgrR30o24 : Oper := { dst := some 36, op := Op.move (.tmp 9), type := 3, pos := "ref.go:154", after := #[], guard := none }
end Go.Proofs.Ytpjjkdgmfjhfiaa
namespace Go.Proofs.Ytpjjkdgmfjhfiaa
open Go.RowKit
set_option linter.unusedVariables false
set_option linter.unusedSimpArgs false
theorem yieldsIf_sub_w {ops : Array Oper} {S : World → Prop} {o : Oper} {ac : Act} (hw : Region.wanted o (yielded ops ac.tmps) = true) (ty : TypeId) (p : Operand) (ho : o.op = Op.load ty p) (g k : Nat) (t : TypeId) (hp : ac.eval p = .pointer (some ⟨g, k, none⟩)) (cs sub : Array Value)
    (hS : ∀ w, S w → Blk w g t cs) (hs : (cs.toList.drop k).take sub.size = sub.toList) {fs : _} (hu : Try.prog.underlying ty = some (.struct fs)) (hi : (Try.prog.info? ty).map (·.size) = some sub.size) : YieldsIf Try.prog ops S o (.agg sub) ac := by
  refine .inl ⟨hw, fun w hw' => ?_⟩
  have hl := load_sub (hS w hw') k sub hs hu hi
  simp [execOp, ho, hp, Instr.loadAt, Instr.sureAddr, hl, Result.andThen]
theorem u16v_take {l : List Int} {n : Nat} (h8 : 8 ≤ n) (hn : n ≤ l.length) : u16v (l.take n) 6 = u16v l 6 := by
  have h1 := u16v_yes (l := l.take n) (k := 6) (by rw [List.length_take]; omega)
  have h2 := u16v_yes (l := l) (k := 6) (by omega)
  have e : (6 : Int) = ((6 : Nat) : Int) := rfl
  rw [e, h1, h2]
  simp only [List.getD_eq_getElem?_getD, List.getElem?_take]
  rw [if_pos (by omega), if_pos (by omega)]
set_option maxRecDepth 100000 in
set_option maxHeartbeats 4000000 in
theorem rudp_e2 (f sf sh sl df dh dl ho : Int) (fg : Bool) (id of : Int) (mo : Bool) (xa : Option Addr) (xn xc : Nat) (da : Option Addr) (dc : Nat) (l : List Int) (w : World) (h : Row w da l) (hll : l.length ≤ 140737488351232) (hc : l.length ≤ dc) (hcm : dc ≤ 9223372036854775807) (hs : Ad.ok ⟨sf, sh, sl⟩) (hd : Ad.ok ⟨df, dh, dl⟩) (h8 : l.length < 8) :
    Calls Try.prog 35 #[.agg (sRa f sf sh sl df dh dl 17 ho fg id of mo xa xn xc da l.length dc), .agg (sRc f 17 sf sh sl df dh dl 0 0 0 0 0 0 0 0 false 0 0 0 0 0 0 0 0 0 0 none 0 0)] w (GotS w 2 ⟨⟨f, 17, ⟨sf, sh, sl⟩, ⟨df, dh, dl⟩, 0, 0⟩, 0, 0, 0, 0, 0, 0, false, zTp, []⟩) := by
  obtain ⟨W1, hW1⟩ : ∃ W1, w.alloc (.cells (sRa f sf sh sl df dh dl 17 ho fg id of mo xa xn xc da l.length dc) 36) = W1 := ⟨_, rfl⟩
  obtain ⟨W2, hW2⟩ : ∃ W2, W1.alloc (.cells (sRc f 17 sf sh sl df dh dl 0 0 0 0 0 0 0 0 false 0 0 0 0 0 0 0 0 0 0 none 0 0) 38) = W2 := ⟨_, rfl⟩
  obtain ⟨W3, hW3⟩ : ∃ W3, W2.alloc (.cells (sRc 0 0 0 0 0 0 0 0 0 0 0 0 0 0 0 0 false 0 0 0 0 0 0 0 0 0 0 none 0 0) 38) = W3 := ⟨_, rfl⟩
  have b1 := bel_nw hW1
  have b2 := bel_al b1 hW2
  have b3 := bel_al b2 hW3
  have P1 := blk_nw hW1
  have P2 := P1.al hW2
  have P3 := P2.al hW3
  have S2 := blk_nw hW2
  have S3 := S2.al hW3
  have R3 := blk_nw hW3
  have g1 : w.heap.size < W1.heap.size := P1.lt
  have g2 : W1.heap.size < W2.heap.size := S2.lt
  have d14 := P3.cell 14 (.slice da l.length dc) rfl
  clear P1 P2 S2 b1 b2
  have h8' : (l.length : Int) < 8 := by omega
  go_enter Try.func35, Try.ntmps35
  have Rf := R3.set (sRc f 17 sf sh sl df dh dl 0 0 0 0 0 0 0 0 false 0 0 0 0 0 0 0 0 0 0 none 0 0)
  have bf := below_setRow b3 (show w.heap.size ≤ W2.heap.size by omega) (sRc f 17 sf sh sl df dh dl 0 0 0 0 0 0 0 0 false 0 0 0 0 0 0 0 0 0 0 none 0 0)
  go_wp2_with (first
    | (refine wpList_load_row rfl _ _ rfl W1.heap.size (by rfl) _ _ _ _ S3 Try.underlying38 rfl (by kernel_rfl) ?_)
    | (refine wpList_store_row rfl _ _ _ rfl W2.heap.size (sRc f 17 sf sh sl df dh dl 0 0 0 0 0 0 0 0 false 0 0 0 0 0 0 0 0 0 0 none 0 0) (by rfl) (by rfl) _ _ R3 (by kernel_rfl) (by rfl) (by kernel_rfl) ?_))
  exact ret_cell_tmp (k := 4) (j := 5) Try.f35 (by kernel_rfl) Rf Try.underlying38 (by kernel_rfl) (by rfl) (by rfl) rfl ⟨none, 0, rfl, fresh_nil bf⟩
set_option maxRecDepth 100000 in
set_option maxHeartbeats 4000000 in
theorem rudp_e5a (f sf sh sl df dh dl ho : Int) (fg : Bool) (id of : Int) (mo : Bool) (xa : Option Addr) (xn xc : Nat) (bk off dc : Nat) (l : List Int) (w : World) (h : Row w (some ⟨bk, off, none⟩) l) (hll : l.length ≤ 140737488351232) (hc : l.length ≤ dc) (hcm : dc ≤ 9223372036854775807) (hs : Ad.ok ⟨sf, sh, sl⟩) (hd : Ad.ok ⟨df, dh, dl⟩) (h8 : ¬ l.length < 8) (h5 : u16v l 4 < 8) :
    Calls Try.prog 35 #[.agg (sRa f sf sh sl df dh dl 17 ho fg id of mo xa xn xc (some ⟨bk, off, none⟩) l.length dc), .agg (sRc f 17 sf sh sl df dh dl 0 0 0 0 0 0 0 0 false 0 0 0 0 0 0 0 0 0 0 none 0 0)] w (GotS w 5 ⟨⟨f, 17, ⟨sf, sh, sl⟩, ⟨df, dh, dl⟩, 0, 0⟩, 0, 0, 0, 0, 0, 0, false, zTp, []⟩) := by
  obtain ⟨W1, hW1⟩ : ∃ W1, w.alloc (.cells (sRa f sf sh sl df dh dl 17 ho fg id of mo xa xn xc (some ⟨bk, off, none⟩) l.length dc) 36) = W1 := ⟨_, rfl⟩
  obtain ⟨W2, hW2⟩ : ∃ W2, W1.alloc (.cells (sRc f 17 sf sh sl df dh dl 0 0 0 0 0 0 0 0 false 0 0 0 0 0 0 0 0 0 0 none 0 0) 38) = W2 := ⟨_, rfl⟩
  obtain ⟨W3, hW3⟩ : ∃ W3, W2.alloc (.cells (sRc 0 0 0 0 0 0 0 0 0 0 0 0 0 0 0 0 false 0 0 0 0 0 0 0 0 0 0 none 0 0) 38) = W3 := ⟨_, rfl⟩
  have b1 := bel_nw hW1
  have b2 := bel_al b1 hW2
  have b3 := bel_al b2 hW3
  have P1 := blk_nw hW1
  have P2 := P1.al hW2
  have P3 := P2.al hW3
  have S2 := blk_nw hW2
  have S3 := S2.al hW3
  have R3 := blk_nw hW3
  have g1 : w.heap.size < W1.heap.size := P1.lt
  have g2 : W1.heap.size < W2.heap.size := S2.lt
  have d14 := P3.cell 14 (.slice (some ⟨bk, off, none⟩) l.length dc) rfl
  clear P1 P2 S2 b1 b2
  have h8' : ¬ (l.length : Int) < 8 := by omega
  obtain ⟨nn, hn⟩ := Int.eq_ofNat_of_zero_le (u16v_bd h.bytes 4).1
  obtain ⟨nI, h_nI⟩ : ∃ x, u16v l 4 = x := ⟨_, rfl⟩
  obtain ⟨y4, h_y4⟩ : ∃ x, liesB l.length 4 2 = x := ⟨_, rfl⟩
  have K4 : Hid (∀ W, Row W (some ⟨bk, off, none⟩) l → Calls Try.prog 60 #[.slice (some ⟨bk, off, none⟩) l.length dc, .int .i64 4] W fun e w' => e = .returned (.tuple #[.int .i64 nI, .bool y4]) ∧ Below W.heap.size W w') := fun W hW => by
    have := ru16_any (some ⟨bk, off, none⟩) dc l 4 W hW (fun e => by cases e) hll hc hcm (by decide)
    rw [h_nI, h_y4] at this
    exact this
  have hnI : nI = (nn : Int) := by rw [← h_nI]; exact hn
  subst hnI
  rw [hn] at h5
  clear h_nI h_y4 hn
  go_enter Try.func35, Try.ntmps35
  go_wp2_with fail
  refine Calls.mono (K4.out _ (h.below b3)) ?_
  rintro e W4 ⟨rfl, bb⟩
  have P4 := P3.kept bb
  have S4 := S3.kept bb
  have R4 := R3.kept bb
  have b4 := bel_tr b3 bb
  clear K4 bb P3 S3 R3 b3 d14 hW1 hW2 hW3
  have Rf := R4.set (sRc f 17 sf sh sl df dh dl 0 0 0 0 0 0 0 0 false 0 0 0 0 0 0 0 0 0 0 none 0 0)
  have bf := below_setRow b4 (show w.heap.size ≤ W2.heap.size by omega) (sRc f 17 sf sh sl df dh dl 0 0 0 0 0 0 0 0 false 0 0 0 0 0 0 0 0 0 0 none 0 0)
  go_wp2_with (first
    | (refine wpList_load_row rfl _ _ rfl W1.heap.size (by rfl) _ _ _ _ S4 Try.underlying38 rfl (by kernel_rfl) ?_)
    | (refine wpList_store_row rfl _ _ _ rfl W2.heap.size (sRc f 17 sf sh sl df dh dl 0 0 0 0 0 0 0 0 false 0 0 0 0 0 0 0 0 0 0 none 0 0) (by rfl) (by rfl) _ _ R4 (by kernel_rfl) (by rfl) (by kernel_rfl) ?_))
  exact ret_cell_tmp (k := 4) (j := 5) Try.f35 (by kernel_rfl) Rf Try.underlying38 (by kernel_rfl) (by rfl) (by rfl) rfl ⟨none, 0, rfl, fresh_nil bf⟩
set_option maxRecDepth 100000 in
set_option maxHeartbeats 4000000 in
theorem rudp_e5b (f sf sh sl df dh dl ho : Int) (fg : Bool) (id of : Int) (mo : Bool) (xa : Option Addr) (xn xc : Nat) (bk off dc : Nat) (l : List Int) (w : World) (h : Row w (some ⟨bk, off, none⟩) l) (hll : l.length ≤ 140737488351232) (hc : l.length ≤ dc) (hcm : dc ≤ 9223372036854775807) (hs : Ad.ok ⟨sf, sh, sl⟩) (hd : Ad.ok ⟨df, dh, dl⟩) (h8 : ¬ l.length < 8) (h5 : ¬ u16v l 4 < 8) (h6 : u16v l 4 > (l.length : Int)) :
    Calls Try.prog 35 #[.agg (sRa f sf sh sl df dh dl 17 ho fg id of mo xa xn xc (some ⟨bk, off, none⟩) l.length dc), .agg (sRc f 17 sf sh sl df dh dl 0 0 0 0 0 0 0 0 false 0 0 0 0 0 0 0 0 0 0 none 0 0)] w (GotS w 5 ⟨⟨f, 17, ⟨sf, sh, sl⟩, ⟨df, dh, dl⟩, 0, 0⟩, 0, 0, 0, 0, 0, 0, false, zTp, []⟩) := by
  obtain ⟨W1, hW1⟩ : ∃ W1, w.alloc (.cells (sRa f sf sh sl df dh dl 17 ho fg id of mo xa xn xc (some ⟨bk, off, none⟩) l.length dc) 36) = W1 := ⟨_, rfl⟩
  obtain ⟨W2, hW2⟩ : ∃ W2, W1.alloc (.cells (sRc f 17 sf sh sl df dh dl 0 0 0 0 0 0 0 0 false 0 0 0 0 0 0 0 0 0 0 none 0 0) 38) = W2 := ⟨_, rfl⟩
  obtain ⟨W3, hW3⟩ : ∃ W3, W2.alloc (.cells (sRc 0 0 0 0 0 0 0 0 0 0 0 0 0 0 0 0 false 0 0 0 0 0 0 0 0 0 0 none 0 0) 38) = W3 := ⟨_, rfl⟩
  have b1 := bel_nw hW1
  have b2 := bel_al b1 hW2
  have b3 := bel_al b2 hW3
  have P1 := blk_nw hW1
  have P2 := P1.al hW2
  have P3 := P2.al hW3
  have S2 := blk_nw hW2
  have S3 := S2.al hW3
  have R3 := blk_nw hW3
  have g1 : w.heap.size < W1.heap.size := P1.lt
  have g2 : W1.heap.size < W2.heap.size := S2.lt
  have d14 := P3.cell 14 (.slice (some ⟨bk, off, none⟩) l.length dc) rfl
  clear P1 P2 S2 b1 b2
  have h8' : ¬ (l.length : Int) < 8 := by omega
  obtain ⟨nn, hn⟩ := Int.eq_ofNat_of_zero_le (u16v_bd h.bytes 4).1
  obtain ⟨nI, h_nI⟩ : ∃ x, u16v l 4 = x := ⟨_, rfl⟩
  obtain ⟨y4, h_y4⟩ : ∃ x, liesB l.length 4 2 = x := ⟨_, rfl⟩
  have K4 : Hid (∀ W, Row W (some ⟨bk, off, none⟩) l → Calls Try.prog 60 #[.slice (some ⟨bk, off, none⟩) l.length dc, .int .i64 4] W fun e w' => e = .returned (.tuple #[.int .i64 nI, .bool y4]) ∧ Below W.heap.size W w') := fun W hW => by
    have := ru16_any (some ⟨bk, off, none⟩) dc l 4 W hW (fun e => by cases e) hll hc hcm (by decide)
    rw [h_nI, h_y4] at this
    exact this
  have hnI : nI = (nn : Int) := by rw [← h_nI]; exact hn
  subst hnI
  rw [hn] at h5 h6
  clear h_nI h_y4 hn
  go_enter Try.func35, Try.ntmps35
  go_wp2_with fail
  refine Calls.mono (K4.out _ (h.below b3)) ?_
  rintro e W4 ⟨rfl, bb⟩
  have P4 := P3.kept bb
  have S4 := S3.kept bb
  have R4 := R3.kept bb
  have b4 := bel_tr b3 bb
  clear K4 bb P3 S3 R3 b3 d14 hW1 hW2 hW3
  have Rf := R4.set (sRc f 17 sf sh sl df dh dl 0 0 0 0 0 0 0 0 false 0 0 0 0 0 0 0 0 0 0 none 0 0)
  have bf := below_setRow b4 (show w.heap.size ≤ W2.heap.size by omega) (sRc f 17 sf sh sl df dh dl 0 0 0 0 0 0 0 0 false 0 0 0 0 0 0 0 0 0 0 none 0 0)
  go_wp2_with (first
    | (refine wpList_load_row rfl _ _ rfl W1.heap.size (by rfl) _ _ _ _ S4 Try.underlying38 rfl (by kernel_rfl) ?_)
    | (refine wpList_store_row rfl _ _ _ rfl W2.heap.size (sRc f 17 sf sh sl df dh dl 0 0 0 0 0 0 0 0 false 0 0 0 0 0 0 0 0 0 0 none 0 0) (by rfl) (by rfl) _ _ R4 (by kernel_rfl) (by rfl) (by kernel_rfl) ?_))
  exact ret_cell_tmp (k := 4) (j := 5) Try.f35 (by kernel_rfl) Rf Try.underlying38 (by kernel_rfl) (by rfl) (by rfl) rfl ⟨none, 0, rfl, fresh_nil bf⟩
set_option maxRecDepth 100000 in
set_option maxHeartbeats 4000000 in
theorem rudp_e6a (f sf sh sl df dh dl ho : Int) (fg : Bool) (id of : Int) (mo : Bool) (xa : Option Addr) (xn xc : Nat) (bk off dc : Nat) (l : List Int) (w : World) (h : Row w (some ⟨bk, off, none⟩) l) (hll : l.length ≤ 140737488351232) (hc : l.length ≤ dc) (hcm : dc ≤ 9223372036854775807) (hs : Ad.ok ⟨sf, sh, sl⟩) (hd : Ad.ok ⟨df, dh, dl⟩) (h8 : ¬ l.length < 8) (h5 : ¬ u16v l 4 < 8) (h6 : ¬ u16v l 4 > (l.length : Int)) (hz : u16v (l.take (u16v l 4).toNat) 6 = 0) (h66 : f = 6) :
    Calls Try.prog 35 #[.agg (sRa f sf sh sl df dh dl 17 ho fg id of mo xa xn xc (some ⟨bk, off, none⟩) l.length dc), .agg (sRc f 17 sf sh sl df dh dl 0 0 0 0 0 0 0 0 false 0 0 0 0 0 0 0 0 0 0 none 0 0)] w (GotS w 6 ⟨⟨f, 17, ⟨sf, sh, sl⟩, ⟨df, dh, dl⟩, 0, 0⟩, 0, 0, 0, 0, 0, 0, false, zTp, []⟩) := by
  obtain ⟨W1, hW1⟩ : ∃ W1, w.alloc (.cells (sRa f sf sh sl df dh dl 17 ho fg id of mo xa xn xc (some ⟨bk, off, none⟩) l.length dc) 36) = W1 := ⟨_, rfl⟩
  obtain ⟨W2, hW2⟩ : ∃ W2, W1.alloc (.cells (sRc f 17 sf sh sl df dh dl 0 0 0 0 0 0 0 0 false 0 0 0 0 0 0 0 0 0 0 none 0 0) 38) = W2 := ⟨_, rfl⟩
  obtain ⟨W3, hW3⟩ : ∃ W3, W2.alloc (.cells (sRc 0 0 0 0 0 0 0 0 0 0 0 0 0 0 0 0 false 0 0 0 0 0 0 0 0 0 0 none 0 0) 38) = W3 := ⟨_, rfl⟩
  have b1 := bel_nw hW1
  have b2 := bel_al b1 hW2
  have b3 := bel_al b2 hW3
  have P1 := blk_nw hW1
  have P2 := P1.al hW2
  have P3 := P2.al hW3
  have S2 := blk_nw hW2
  have S3 := S2.al hW3
  have R3 := blk_nw hW3
  have g1 : w.heap.size < W1.heap.size := P1.lt
  have g2 : W1.heap.size < W2.heap.size := S2.lt
  have d14 := P3.cell 14 (.slice (some ⟨bk, off, none⟩) l.length dc) rfl
  clear P1 P2 S2 b1 b2
  have h8' : ¬ (l.length : Int) < 8 := by omega
  obtain ⟨nn, hn⟩ := Int.eq_ofNat_of_zero_le (u16v_bd h.bytes 4).1
  obtain ⟨nI, h_nI⟩ : ∃ x, u16v l 4 = x := ⟨_, rfl⟩
  obtain ⟨y4, h_y4⟩ : ∃ x, liesB l.length 4 2 = x := ⟨_, rfl⟩
  have K4 : Hid (∀ W, Row W (some ⟨bk, off, none⟩) l → Calls Try.prog 60 #[.slice (some ⟨bk, off, none⟩) l.length dc, .int .i64 4] W fun e w' => e = .returned (.tuple #[.int .i64 nI, .bool y4]) ∧ Below W.heap.size W w') := fun W hW => by
    have := ru16_any (some ⟨bk, off, none⟩) dc l 4 W hW (fun e => by cases e) hll hc hcm (by decide)
    rw [h_nI, h_y4] at this
    exact this
  have hnI : nI = (nn : Int) := by rw [← h_nI]; exact hn
  subst hnI
  rw [hn] at h5 h6
  have n8 : 8 ≤ nn := by omega
  have nl : nn ≤ l.length := by omega
  have j1 : (0 : Int) ≤ (nn : Int) := by omega
  have j2 : (nn : Int) ≤ (dc : Int) := by omega
  have j3 : nn ≤ dc := by omega
  have hnt : (u16v l 4).toNat = nn := by rw [hn]; simp
  rw [hnt] at hz
  rw [u16v_take n8 nl] at hz
  obtain ⟨z, h_z⟩ : ∃ x, u16v l 6 = x := ⟨_, rfl⟩
  obtain ⟨y6, h_y6⟩ : ∃ x, liesB l.length 6 2 = x := ⟨_, rfl⟩
  have K6 : Hid (∀ W, Row W (some ⟨bk, off, none⟩) l → Calls Try.prog 60 #[.slice (some ⟨bk, off, none⟩) l.length dc, .int .i64 6] W fun e w' => e = .returned (.tuple #[.int .i64 z, .bool y6]) ∧ Below W.heap.size W w') := fun W hW => by
    have := ru16_any (some ⟨bk, off, none⟩) dc l 6 W hW (fun e => by cases e) hll hc hcm (by decide)
    rw [h_z, h_y6] at this
    exact this
  rw [h_z] at hz
  have hz' : (z == 0) = true := by simpa using hz
  have hz2 : (z != 0) = false := by simpa using hz
  have f6' : (f == 6) = true := by simpa using h66
  clear h66
  clear hz
  clear hnt hn
  clear h_nI h_y4 h_z h_y6
  go_enter Try.func35, Try.ntmps35
  go_wp2_with fail
  refine Calls.mono (K4.out _ (h.below b3)) ?_
  rintro e W4 ⟨rfl, bb⟩
  have P4 := P3.kept bb
  have S4 := S3.kept bb
  have R4 := R3.kept bb
  have b4 := bel_tr b3 bb
  clear K4 bb P3 S3 R3 b3 d14 hW1 hW2 hW3
  go_wp2_with fail
  refine Calls.mono (K6.out _ (h.below b4)) ?_
  rintro e W5 ⟨rfl, bb⟩
  have P5 := P4.kept bb
  have S5 := S4.kept bb
  have R5 := R4.kept bb
  have b5 := bel_tr b4 bb
  clear K6 bb P4 S4 R4 b4
  go_wp2_with fail
  refine wp_region_noPanic ?_
  refine wp_region_held_drew (S := fun w' => Blk w' w.heap.size 36 (sRa f sf sh sl df dh dl 17 ho fg id of mo xa xn xc (some ⟨bk, off, none⟩) l.length dc) ∧ w'.cell? ⟨w.heap.size, 0, none⟩ = some (.int .i64 f)) (by kernel_rfl) (by exact ⟨P5.drew, P5.drew.cell 0 _ rfl⟩) (fun hHeld => ?_)
  refine tk (i := 0) (oi := sgrR30o24) (v := (.int .i64 z)) hHeld ?_ ?_
  · intro w9 hSw
    try dsimp only at hSw
    go_simp
  try simp only [pu]
  refine tk (i := 1) (oi := sgrR30o14) (v := (.bool true)) hHeld ?_ ?_
  · intro w9 hSw
    try dsimp only at hSw
    go_simp
  try simp only [pu]
  refine tk (i := 2) (oi := sgrR30o23) (v := (.bool true)) hHeld ?_ ?_
  · intro w9 hSw
    try dsimp only at hSw
    go_simp
  try simp only [pu]
  refine tk (i := 3) (oi := sgrR30o18) (v := (.pointer (some ⟨w.heap.size, 0, none⟩))) hHeld ?_ ?_
  · intro w9 hSw
    try dsimp only at hSw
    go_simp
  try simp only [pu]
  refine tk (i := 4) (oi := sgrR30o13) (v := (.int .i64 f)) hHeld ?_ ?_
  · intro w9 hSw
    try dsimp only at hSw
    go_simp
  try simp only [pu]
  refine tk (i := 5) (oi := sgrR30o7) (v := (.bool true)) hHeld ?_ ?_
  · intro w9 hSw
    try dsimp only at hSw
    go_simp
  try simp only [pu]
  refine tk (i := 6) (oi := sgrR30o9) (v := (.bool true)) hHeld ?_ ?_
  · intro w9 hSw
    try dsimp only at hSw
    go_simp
  try simp only [pu]
  refine tk (i := 7) (oi := sgrR30o15) (v := (.bool true)) hHeld ?_ ?_
  · intro w9 hSw
    try dsimp only at hSw
    go_simp
  try simp only [pu]
  refine wpAnyH_take (i := 8) (oi := sgrR30o22) (v := undef) rfl (by kernel_rfl) (by kernel_rfl) (by kernel_rfl) (fun _ _ _ h => h) (.inr ⟨by kernel_rfl, rfl⟩) hHeld ?_
  try simp only [pu]
  refine wpAnyH_take (i := 9) (oi := sgrR30o6) (v := undef) rfl (by kernel_rfl) (by kernel_rfl) (by kernel_rfl) (fun _ _ _ h => h) (.inr ⟨by kernel_rfl, rfl⟩) hHeld ?_
  try simp only [pu]
  refine wpAnyH_take (i := 10) (oi := sgrR30o8) (v := undef) rfl (by kernel_rfl) (by kernel_rfl) (by kernel_rfl) (fun _ _ _ h => h) (.inr ⟨by kernel_rfl, rfl⟩) hHeld ?_
  try simp only [pu]
  refine wpAnyH_take (i := 11) (oi := sgrR30o16) (v := undef) rfl (by kernel_rfl) (by kernel_rfl) (by kernel_rfl) (fun _ _ _ h => h) (.inr ⟨by kernel_rfl, rfl⟩) hHeld ?_
  try simp only [pu]
  refine wpAnyH_take (i := 12) (oi := sgrR30o11) (v := undef) rfl (by kernel_rfl) (by kernel_rfl) (by kernel_rfl) (fun _ _ _ h => h) (.inr ⟨by kernel_rfl, rfl⟩) hHeld ?_
  try simp only [pu]
  refine wpAnyH_take (i := 13) (oi := sgrR30o17) (v := undef) rfl (by kernel_rfl) (by kernel_rfl) (by kernel_rfl) (fun _ _ _ h => h) (.inr ⟨by kernel_rfl, rfl⟩) hHeld ?_
  try simp only [pu]
  refine wpAnyH_take (i := 14) (oi := sgrR30o12) (v := undef) rfl (by kernel_rfl) (by kernel_rfl) (by kernel_rfl) (fun _ _ _ h => h) (.inr ⟨by kernel_rfl, rfl⟩) hHeld ?_
  try simp only [pu]
  refine wpAnyH_take (i := 15) (oi := sgrR30o20) (v := undef) rfl (by kernel_rfl) (by kernel_rfl) (by kernel_rfl) (fun _ _ _ h => h) (.inr ⟨by kernel_rfl, rfl⟩) hHeld ?_
  try simp only [pu]
  refine wpAnyH_take (i := 16) (oi := sgrR30o0) (v := undef) rfl (by kernel_rfl) (by kernel_rfl) (by kernel_rfl) (fun _ _ _ h => h) (.inr ⟨by kernel_rfl, rfl⟩) hHeld ?_
  try simp only [pu]
  refine wpAnyH_take (i := 17) (oi := sgrR30o19) (v := undef) rfl (by kernel_rfl) (by kernel_rfl) (by kernel_rfl) (fun _ _ _ h => h) (.inr ⟨by kernel_rfl, rfl⟩) hHeld ?_
  try simp only [pu]
  refine wpAnyH_take (i := 18) (oi := sgrR30o21) (v := undef) rfl (by kernel_rfl) (by kernel_rfl) (by kernel_rfl) (fun _ _ _ h => h) (.inr ⟨by kernel_rfl, rfl⟩) hHeld ?_
  try simp only [pu]
  refine wpAnyH_take (i := 19) (oi := sgrR30o3) (v := undef) rfl (by kernel_rfl) (by kernel_rfl) (by kernel_rfl) (fun _ _ _ h => h) (.inr ⟨by kernel_rfl, rfl⟩) hHeld ?_
  try simp only [pu]
  refine wpAnyH_take (i := 20) (oi := sgrR30o2) (v := undef) rfl (by kernel_rfl) (by kernel_rfl) (by kernel_rfl) (fun _ _ _ h => h) (.inr ⟨by kernel_rfl, rfl⟩) hHeld ?_
  try simp only [pu]
  refine wpAnyH_take (i := 21) (oi := sgrR30o1) (v := undef) rfl (by kernel_rfl) (by kernel_rfl) (by kernel_rfl) (fun _ _ _ h => h) (.inr ⟨by kernel_rfl, rfl⟩) hHeld ?_
  try simp only [pu]
  refine wpAnyH_take (i := 22) (oi := sgrR30o5) (v := undef) rfl (by kernel_rfl) (by kernel_rfl) (by kernel_rfl) (fun _ _ _ h => h) (.inr ⟨by kernel_rfl, rfl⟩) hHeld ?_
  try simp only [pu]
  refine wpAnyH_take (i := 23) (oi := sgrR30o4) (v := undef) rfl (by kernel_rfl) (by kernel_rfl) (by kernel_rfl) (fun _ _ _ h => h) (.inr ⟨by kernel_rfl, rfl⟩) hHeld ?_
  try simp only [pu]
  refine tk (i := 24) (oi := sgrR30o10) (v := (.bool true)) hHeld ?_ ?_
  · intro w9 hSw
    try dsimp only at hSw
    go_simp
  try simp only [pu]
  refine wpAnyH_done (by kernel_rfl) ?_ _
  refine NoPanic.normal ?_
  have S6 := S5.drew
  have R6 := R5.drew
  have b6 := b5.drew
  obtain ⟨W6, hW6⟩ : ∃ W, W5.drew = W := ⟨_, rfl⟩
  rw [hW6] at S6 R6 b6 ⊢
  clear hW6 S5 R5 b5 P5 hHeld
  have Rf := R6.set (sRc f 17 sf sh sl df dh dl 0 0 0 0 0 0 0 0 false 0 0 0 0 0 0 0 0 0 0 none 0 0)
  have bf := below_setRow b6 (show w.heap.size ≤ W2.heap.size by omega) (sRc f 17 sf sh sl df dh dl 0 0 0 0 0 0 0 0 false 0 0 0 0 0 0 0 0 0 0 none 0 0)
  go_wp2_with (first
    | (refine wpList_load_row rfl _ _ rfl W1.heap.size (by rfl) _ _ _ _ S6 Try.underlying38 rfl (by kernel_rfl) ?_)
    | (refine wpList_store_row rfl _ _ _ rfl W2.heap.size (sRc f 17 sf sh sl df dh dl 0 0 0 0 0 0 0 0 false 0 0 0 0 0 0 0 0 0 0 none 0 0) (by rfl) (by rfl) _ _ R6 (by kernel_rfl) (by rfl) (by kernel_rfl) ?_))
  exact ret_cell_tmp (k := 4) (j := 5) Try.f35 (by kernel_rfl) Rf Try.underlying38 (by kernel_rfl) (by rfl) (by rfl) rfl ⟨none, 0, rfl, fresh_nil bf⟩
set_option maxRecDepth 100000 in
set_option maxHeartbeats 4000000 in
theorem rudp_e6b (f sf sh sl df dh dl ho : Int) (fg : Bool) (id of : Int) (mo : Bool) (xa : Option Addr) (xn xc : Nat) (bk off dc : Nat) (l : List Int) (w : World) (h : Row w (some ⟨bk, off, none⟩) l) (hll : l.length ≤ 140737488351232) (hc : l.length ≤ dc) (hcm : dc ≤ 9223372036854775807) (hs : Ad.ok ⟨sf, sh, sl⟩) (hd : Ad.ok ⟨df, dh, dl⟩) (h8 : ¬ l.length < 8) (h5 : ¬ u16v l 4 < 8) (h6 : ¬ u16v l 4 > (l.length : Int)) (hz : ¬ u16v (l.take (u16v l 4).toNat) 6 = 0) (hsum : sumsB ⟨sf, sh, sl⟩ ⟨df, dh, dl⟩ 17 (l.take (u16v l 4).toNat) = false) :
    Calls Try.prog 35 #[.agg (sRa f sf sh sl df dh dl 17 ho fg id of mo xa xn xc (some ⟨bk, off, none⟩) l.length dc), .agg (sRc f 17 sf sh sl df dh dl 0 0 0 0 0 0 0 0 false 0 0 0 0 0 0 0 0 0 0 none 0 0)] w (GotS w 6 ⟨⟨f, 17, ⟨sf, sh, sl⟩, ⟨df, dh, dl⟩, 0, 0⟩, 0, 0, 0, 0, 0, 0, false, zTp, []⟩) := by
  obtain ⟨W1, hW1⟩ : ∃ W1, w.alloc (.cells (sRa f sf sh sl df dh dl 17 ho fg id of mo xa xn xc (some ⟨bk, off, none⟩) l.length dc) 36) = W1 := ⟨_, rfl⟩
  obtain ⟨W2, hW2⟩ : ∃ W2, W1.alloc (.cells (sRc f 17 sf sh sl df dh dl 0 0 0 0 0 0 0 0 false 0 0 0 0 0 0 0 0 0 0 none 0 0) 38) = W2 := ⟨_, rfl⟩
  obtain ⟨W3, hW3⟩ : ∃ W3, W2.alloc (.cells (sRc 0 0 0 0 0 0 0 0 0 0 0 0 0 0 0 0 false 0 0 0 0 0 0 0 0 0 0 none 0 0) 38) = W3 := ⟨_, rfl⟩
  have b1 := bel_nw hW1
  have b2 := bel_al b1 hW2
  have b3 := bel_al b2 hW3
  have P1 := blk_nw hW1
  have P2 := P1.al hW2
  have P3 := P2.al hW3
  have S2 := blk_nw hW2
  have S3 := S2.al hW3
  have R3 := blk_nw hW3
  have g1 : w.heap.size < W1.heap.size := P1.lt
  have g2 : W1.heap.size < W2.heap.size := S2.lt
  have d14 := P3.cell 14 (.slice (some ⟨bk, off, none⟩) l.length dc) rfl
  clear P1 P2 S2 b1 b2
  have h8' : ¬ (l.length : Int) < 8 := by omega
  obtain ⟨nn, hn⟩ := Int.eq_ofNat_of_zero_le (u16v_bd h.bytes 4).1
  obtain ⟨nI, h_nI⟩ : ∃ x, u16v l 4 = x := ⟨_, rfl⟩
  obtain ⟨y4, h_y4⟩ : ∃ x, liesB l.length 4 2 = x := ⟨_, rfl⟩
  have K4 : Hid (∀ W, Row W (some ⟨bk, off, none⟩) l → Calls Try.prog 60 #[.slice (some ⟨bk, off, none⟩) l.length dc, .int .i64 4] W fun e w' => e = .returned (.tuple #[.int .i64 nI, .bool y4]) ∧ Below W.heap.size W w') := fun W hW => by
    have := ru16_any (some ⟨bk, off, none⟩) dc l 4 W hW (fun e => by cases e) hll hc hcm (by decide)
    rw [h_nI, h_y4] at this
    exact this
  have hnI : nI = (nn : Int) := by rw [← h_nI]; exact hn
  subst hnI
  rw [hn] at h5 h6
  have n8 : 8 ≤ nn := by omega
  have nl : nn ≤ l.length := by omega
  have j1 : (0 : Int) ≤ (nn : Int) := by omega
  have j2 : (nn : Int) ≤ (dc : Int) := by omega
  have j3 : nn ≤ dc := by omega
  have hnt : (u16v l 4).toNat = nn := by rw [hn]; simp
  rw [hnt] at hz
  rw [u16v_take n8 nl] at hz
  obtain ⟨z, h_z⟩ : ∃ x, u16v l 6 = x := ⟨_, rfl⟩
  obtain ⟨y6, h_y6⟩ : ∃ x, liesB l.length 6 2 = x := ⟨_, rfl⟩
  have K6 : Hid (∀ W, Row W (some ⟨bk, off, none⟩) l → Calls Try.prog 60 #[.slice (some ⟨bk, off, none⟩) l.length dc, .int .i64 6] W fun e w' => e = .returned (.tuple #[.int .i64 z, .bool y6]) ∧ Below W.heap.size W w') := fun W hW => by
    have := ru16_any (some ⟨bk, off, none⟩) dc l 6 W hW (fun e => by cases e) hll hc hcm (by decide)
    rw [h_z, h_y6] at this
    exact this
  rw [h_z] at hz
  have hz' : (z == 0) = false := by simpa using hz
  have hz2 : (z != 0) = true := by simpa using hz
  clear hz
  rw [hnt] at hsum
  obtain ⟨b, hb⟩ : ∃ b, l.take nn = b := ⟨_, rfl⟩
  have lb : b.length = nn := by rw [← hb, List.length_take]; omega
  rw [hb] at hsum
  obtain ⟨L0, hL0⟩ : ∃ L, ahead ⟨sf, sh, sl⟩ ⟨df, dh, dl⟩ 17 b.length = L := ⟨_, rfl⟩
  obtain ⟨SM, hSM⟩ : ∃ s, M.sumOf [L0, b] = s := ⟨_, rfl⟩
  have KP : Hid (∀ W, Calls Try.prog 12 #[.agg #[.int .i64 sf, .int .u64 sh, .int .u64 sl], .agg #[.int .i64 df, .int .u64 dh, .int .u64 dl], .int .i64 17, .int .i64 (nn : Int)] W fun e w' => ∃ a c, e = .returned (.slice a L0.length c) ∧ Fresh W w' a c L0) := fun W => by
    have := rpseudo_any sf sh sl df dh dl 17 (b.length : Int) W hs hd
    have e : pseudo ⟨sf, sh, sl⟩ ⟨df, dh, dl⟩ 17 (b.length : Int) = L0 := by
      rw [← hL0]
      unfold ahead
      rw [if_neg (by decide)]
    rw [e, lb] at this
    exact this
  have hs65 : (SM != 65535) = true := by
    unfold sumsB at hsum
    rw [hL0, hSM] at hsum
    simp at hsum
    simpa using hsum
  have KC : Hid (∀ W a' c', Row W a' L0 → Row W (some ⟨bk, off, none⟩) l → Calls Try.prog 46 #[.slice (some ⟨W.heap.size, 0, none⟩) 2 2] (W.alloc (.cells #[.slice a' L0.length c', .slice (some ⟨bk, off, none⟩) nn dc] 28)) fun e w' => e = .returned (.int .i64 SM) ∧ w' = W.alloc (.cells #[.slice a' L0.length c', .slice (some ⟨bk, off, none⟩) nn dc] 28)) := fun W a' c' h1 h2 => by
    have := refsum_any (some ⟨W.heap.size, 0, none⟩) 2 [L0, b] _ (rowss_two W 28 W.heap.size rfl a' (some ⟨bk, off, none⟩) c' dc L0 b h1 (by rw [← hb]; exact h2.take nn))
    rw [hSM, lb] at this
    exact this
  clear hL0 hSM hsum
  clear hnt hn hb lb
  clear h_nI h_y4 h_z h_y6
  go_enter Try.func35, Try.ntmps35
  go_wp2_with fail
  refine Calls.mono (K4.out _ (h.below b3)) ?_
  rintro e W4 ⟨rfl, bb⟩
  have P4 := P3.kept bb
  have S4 := S3.kept bb
  have R4 := R3.kept bb
  have b4 := bel_tr b3 bb
  clear K4 bb P3 S3 R3 b3 d14 hW1 hW2 hW3
  go_wp2_with fail
  refine Calls.mono (K6.out _ (h.below b4)) ?_
  rintro e W5 ⟨rfl, bb⟩
  have P5 := P4.kept bb
  have S5 := S4.kept bb
  have R5 := R4.kept bb
  have b5 := bel_tr b4 bb
  clear K6 bb P4 S4 R4 b4
  go_wp2_with fail
  refine wp_region_noPanic ?_
  refine wp_region_held_drew (S := fun w' => Blk w' w.heap.size 36 (sRa f sf sh sl df dh dl 17 ho fg id of mo xa xn xc (some ⟨bk, off, none⟩) l.length dc) ∧ w'.cell? ⟨w.heap.size, 0, none⟩ = some (.int .i64 f)) (by kernel_rfl) (by exact ⟨P5.drew, P5.drew.cell 0 _ rfl⟩) (fun hHeld => ?_)
  refine tk (i := 0) (oi := sgrR30o24) (v := (.int .i64 z)) hHeld ?_ ?_
  · intro w9 hSw
    try dsimp only at hSw
    go_simp
  try simp only [pu]
  refine tk (i := 1) (oi := sgrR30o14) (v := (.bool false)) hHeld ?_ ?_
  · intro w9 hSw
    try dsimp only at hSw
    go_simp
  try simp only [pu]
  refine tk (i := 2) (oi := sgrR30o23) (v := (.bool false)) hHeld ?_ ?_
  · intro w9 hSw
    try dsimp only at hSw
    go_simp
  try simp only [pu]
  refine wpAnyH_take (i := 3) (oi := sgrR30o18) (v := undef) rfl (by kernel_rfl) (by kernel_rfl) (by kernel_rfl) (fun _ _ _ h => h) (.inr ⟨by kernel_rfl, rfl⟩) hHeld ?_
  try simp only [pu]
  refine wpAnyH_take (i := 4) (oi := sgrR30o13) (v := undef) rfl (by kernel_rfl) (by kernel_rfl) (by kernel_rfl) (fun _ _ _ h => h) (.inr ⟨by kernel_rfl, rfl⟩) hHeld ?_
  try simp only [pu]
  refine wpAnyH_take (i := 5) (oi := sgrR30o7) (v := undef) rfl (by kernel_rfl) (by kernel_rfl) (by kernel_rfl) (fun _ _ _ h => h) (.inr ⟨by kernel_rfl, rfl⟩) hHeld ?_
  try simp only [pu]
  refine tk (i := 6) (oi := sgrR30o9) (v := (.bool false)) hHeld ?_ ?_
  · intro w9 hSw
    try dsimp only at hSw
    go_simp
  try simp only [pu]
  refine tk (i := 7) (oi := sgrR30o15) (v := (.bool false)) hHeld ?_ ?_
  · intro w9 hSw
    try dsimp only at hSw
    go_simp
  try simp only [pu]
  refine tk (i := 8) (oi := sgrR30o22) (v := (.int .i64 z)) hHeld ?_ ?_
  · intro w9 hSw
    try dsimp only at hSw
    go_simp
  try simp only [pu]
  refine tk (i := 9) (oi := sgrR30o6) (v := (.bool true)) hHeld ?_ ?_
  · intro w9 hSw
    try dsimp only at hSw
    go_simp
  try simp only [pu]
  refine tk (i := 10) (oi := sgrR30o8) (v := (.bool true)) hHeld ?_ ?_
  · intro w9 hSw
    try dsimp only at hSw
    go_simp
  try simp only [pu]
  refine tk (i := 11) (oi := sgrR30o16) (v := (.pointer (some ⟨w.heap.size, 1, none⟩))) hHeld ?_ ?_
  · intro w9 hSw
    try dsimp only at hSw
    go_simp
  try simp only [pu]
  refine wpAnyH_take (i := 12) (oi := sgrR30o11) (v := (.agg #[.int .i64 sf, .int .u64 sh, .int .u64 sl])) rfl (by kernel_rfl) (by kernel_rfl) (by kernel_rfl) (fun _ _ _ h => h) (yieldsIf_sub_w (by kernel_rfl) _ _ rfl w.heap.size 1 36 (by rfl) _ _ (fun _ hSw => hSw.1) (by rfl) Try.underlying24 (by kernel_rfl)) hHeld ?_
  try simp only [pu]
  refine tk (i := 13) (oi := sgrR30o17) (v := (.pointer (some ⟨w.heap.size, 4, none⟩))) hHeld ?_ ?_
  · intro w9 hSw
    try dsimp only at hSw
    go_simp
  try simp only [pu]
  refine wpAnyH_take (i := 14) (oi := sgrR30o12) (v := (.agg #[.int .i64 df, .int .u64 dh, .int .u64 dl])) rfl (by kernel_rfl) (by kernel_rfl) (by kernel_rfl) (fun _ _ _ h => h) (yieldsIf_sub_w (by kernel_rfl) _ _ rfl w.heap.size 4 36 (by rfl) _ _ (fun _ hSw => hSw.1) (by rfl) Try.underlying24 (by kernel_rfl)) hHeld ?_
  try simp only [pu]
  refine tk (i := 15) (oi := sgrR30o20) (v := (.int .i64 (nn : Int))) hHeld ?_ ?_
  · intro w9 hSw
    try dsimp only at hSw
    go_simp
  try simp only [pu]
  refine tk (i := 17) (oi := sgrR30o19) (v := (.slice (some ⟨bk, off, none⟩) l.length dc)) hHeld ?_ ?_
  · intro w9 hSw
    try dsimp only at hSw
    go_simp
  try simp only [pu]
  refine tk (i := 18) (oi := sgrR30o21) (v := (.int .i64 (nn : Int))) hHeld ?_ ?_
  · intro w9 hSw
    try dsimp only at hSw
    go_simp
  try simp only [pu]
  refine tk (i := 19) (oi := sgrR30o3) (v := (.slice (some ⟨bk, off, none⟩) nn dc)) hHeld ?_ ?_
  · intro w9 hSw
    try dsimp only at hSw
    go_simp
  try simp only [pu]
  refine wpAnyH_ready (rs := [16]) (by kernel_rfl) (by simp) ?_
  refine AllReadyH.cons (o := sgrR30o0) rfl (fun K hK => ?_) AllReadyH.nil
  go_simp
  refine Calls.mono (KP.out _) ?_
  rintro e W6 ⟨a6, c6, rfl, f6⟩
  have P6 := P5.drew.kept f6.below
  have S6a := S5.drew.kept f6.below
  have R6a := R5.drew.kept f6.below
  have b6a : Below w.heap.size w W6 := b5.drew.trans (f6.below.mono b5.drew.size)
  refine hK.out _ _ ?_ (fun hHeld => ?_)
  · exact ⟨P6, P6.cell 0 _ rfl⟩
  clear hK K
  try simp only [pu]
  refine wpAnyH_ready (rs := [20]) (by kernel_rfl) (by simp) ?_
  refine AllReadyH.cons (o := sgrR30o2) rfl (fun K hK => ?_) AllReadyH.nil
  go_simp
  refine hK.out _ _ (by exact ⟨P6.alloc _, (P6.alloc _).cell 0 _ rfl⟩) (fun hHeld => ?_)
  clear hK K
  try simp only [pu]
  refine wpAnyH_ready (rs := [21]) (by kernel_rfl) (by simp) ?_
  refine AllReadyH.cons (o := sgrR30o1) rfl (fun K hK => ?_) AllReadyH.nil
  go_simp
  refine Calls.mono (KC.out _ _ _ f6.row (h.below b6a)) ?_
  rintro e W7 ⟨rfl, hW7⟩
  rw [hW7]
  clear hW7 W7
  refine hK.out _ _ ?_ (fun hHeld => ?_)
  · exact ⟨P6.alloc _, (P6.alloc _).cell 0 _ rfl⟩
  clear hK K
  try simp only [pu]
  refine tk (i := 22) (oi := sgrR30o5) (v := (.bool true)) hHeld ?_ ?_
  · intro w9 hSw
    try dsimp only at hSw
    go_simp
  try simp only [pu]
  refine tk (i := 23) (oi := sgrR30o4) (v := (.bool true)) hHeld ?_ ?_
  · intro w9 hSw
    try dsimp only at hSw
    go_simp
  try simp only [pu]
  refine tk (i := 24) (oi := sgrR30o10) (v := (.bool true)) hHeld ?_ ?_
  · intro w9 hSw
    try dsimp only at hSw
    go_simp
  try simp only [pu]
  refine wpAnyH_done (by kernel_rfl) ?_ _
  refine NoPanic.normal ?_
  have S6 := S6a.alloc (.cells #[.slice a6 L0.length c6, .slice (some ⟨bk, off, none⟩) nn dc] 28)
  have R6 := R6a.alloc (.cells #[.slice a6 L0.length c6, .slice (some ⟨bk, off, none⟩) nn dc] 28)
  have b6 := b6a.alloc b6a.size (.cells #[.slice a6 L0.length c6, .slice (some ⟨bk, off, none⟩) nn dc] 28)
  obtain ⟨W8, hW8⟩ : ∃ W, W6.alloc (.cells #[.slice a6 L0.length c6, .slice (some ⟨bk, off, none⟩) nn dc] 28) = W := ⟨_, rfl⟩
  rw [hW8] at S6 R6 b6 ⊢
  clear hW8 S6a R6a b6a P6 f6 P5 S5 R5 b5 hHeld
  have Rf := R6.set (sRc f 17 sf sh sl df dh dl 0 0 0 0 0 0 0 0 false 0 0 0 0 0 0 0 0 0 0 none 0 0)
  have bf := below_setRow b6 (show w.heap.size ≤ W2.heap.size by omega) (sRc f 17 sf sh sl df dh dl 0 0 0 0 0 0 0 0 false 0 0 0 0 0 0 0 0 0 0 none 0 0)
  go_wp2_with (first
    | (refine wpList_load_row rfl _ _ rfl W1.heap.size (by rfl) _ _ _ _ S6 Try.underlying38 rfl (by kernel_rfl) ?_)
    | (refine wpList_store_row rfl _ _ _ rfl W2.heap.size (sRc f 17 sf sh sl df dh dl 0 0 0 0 0 0 0 0 false 0 0 0 0 0 0 0 0 0 0 none 0 0) (by rfl) (by rfl) _ _ R6 (by kernel_rfl) (by rfl) (by kernel_rfl) ?_))
  exact ret_cell_tmp (k := 4) (j := 5) Try.f35 (by kernel_rfl) Rf Try.underlying38 (by kernel_rfl) (by rfl) (by rfl) rfl ⟨none, 0, rfl, fresh_nil bf⟩
set_option maxRecDepth 100000 in
set_option maxHeartbeats 4000000 in
theorem rudp_oka (f sf sh sl df dh dl ho : Int) (fg : Bool) (id of : Int) (mo : Bool) (xa : Option Addr) (xn xc : Nat) (bk off dc : Nat) (l : List Int) (w : World) (h : Row w (some ⟨bk, off, none⟩) l) (hll : l.length ≤ 140737488351232) (hc : l.length ≤ dc) (hcm : dc ≤ 9223372036854775807) (hs : Ad.ok ⟨sf, sh, sl⟩) (hd : Ad.ok ⟨df, dh, dl⟩) (h8 : ¬ l.length < 8) (h5 : ¬ u16v l 4 < 8) (h6 : ¬ u16v l 4 > (l.length : Int)) (hz : u16v (l.take (u16v l 4).toNat) 6 = 0) (h66 : ¬ f = 6) :
    Calls Try.prog 35 #[.agg (sRa f sf sh sl df dh dl 17 ho fg id of mo xa xn xc (some ⟨bk, off, none⟩) l.length dc), .agg (sRc f 17 sf sh sl df dh dl 0 0 0 0 0 0 0 0 false 0 0 0 0 0 0 0 0 0 0 none 0 0)] w (GotS w 0 ⟨⟨f, 17, ⟨sf, sh, sl⟩, ⟨df, dh, dl⟩, 0, 0⟩, 0, 0, 0, 0, 0, 0, false, zTp, ((l.take (u16v l 4).toNat).drop 8)⟩) := by
  obtain ⟨W1, hW1⟩ : ∃ W1, w.alloc (.cells (sRa f sf sh sl df dh dl 17 ho fg id of mo xa xn xc (some ⟨bk, off, none⟩) l.length dc) 36) = W1 := ⟨_, rfl⟩
  obtain ⟨W2, hW2⟩ : ∃ W2, W1.alloc (.cells (sRc f 17 sf sh sl df dh dl 0 0 0 0 0 0 0 0 false 0 0 0 0 0 0 0 0 0 0 none 0 0) 38) = W2 := ⟨_, rfl⟩
  obtain ⟨W3, hW3⟩ : ∃ W3, W2.alloc (.cells (sRc 0 0 0 0 0 0 0 0 0 0 0 0 0 0 0 0 false 0 0 0 0 0 0 0 0 0 0 none 0 0) 38) = W3 := ⟨_, rfl⟩
  have b1 := bel_nw hW1
  have b2 := bel_al b1 hW2
  have b3 := bel_al b2 hW3
  have P1 := blk_nw hW1
  have P2 := P1.al hW2
  have P3 := P2.al hW3
  have S2 := blk_nw hW2
  have S3 := S2.al hW3
  have R3 := blk_nw hW3
  have g1 : w.heap.size < W1.heap.size := P1.lt
  have g2 : W1.heap.size < W2.heap.size := S2.lt
  have d14 := P3.cell 14 (.slice (some ⟨bk, off, none⟩) l.length dc) rfl
  clear P1 P2 S2 b1 b2
  have h8' : ¬ (l.length : Int) < 8 := by omega
  obtain ⟨nn, hn⟩ := Int.eq_ofNat_of_zero_le (u16v_bd h.bytes 4).1
  obtain ⟨nI, h_nI⟩ : ∃ x, u16v l 4 = x := ⟨_, rfl⟩
  obtain ⟨y4, h_y4⟩ : ∃ x, liesB l.length 4 2 = x := ⟨_, rfl⟩
  have K4 : Hid (∀ W, Row W (some ⟨bk, off, none⟩) l → Calls Try.prog 60 #[.slice (some ⟨bk, off, none⟩) l.length dc, .int .i64 4] W fun e w' => e = .returned (.tuple #[.int .i64 nI, .bool y4]) ∧ Below W.heap.size W w') := fun W hW => by
    have := ru16_any (some ⟨bk, off, none⟩) dc l 4 W hW (fun e => by cases e) hll hc hcm (by decide)
    rw [h_nI, h_y4] at this
    exact this
  have hnI : nI = (nn : Int) := by rw [← h_nI]; exact hn
  subst hnI
  rw [hn] at h5 h6
  have n8 : 8 ≤ nn := by omega
  have nl : nn ≤ l.length := by omega
  have j1 : (0 : Int) ≤ (nn : Int) := by omega
  have j2 : (nn : Int) ≤ (dc : Int) := by omega
  have j3 : nn ≤ dc := by omega
  have hnt : (u16v l 4).toNat = nn := by rw [hn]; simp
  rw [hnt] at hz
  rw [u16v_take n8 nl] at hz
  obtain ⟨z, h_z⟩ : ∃ x, u16v l 6 = x := ⟨_, rfl⟩
  obtain ⟨y6, h_y6⟩ : ∃ x, liesB l.length 6 2 = x := ⟨_, rfl⟩
  have K6 : Hid (∀ W, Row W (some ⟨bk, off, none⟩) l → Calls Try.prog 60 #[.slice (some ⟨bk, off, none⟩) l.length dc, .int .i64 6] W fun e w' => e = .returned (.tuple #[.int .i64 z, .bool y6]) ∧ Below W.heap.size W w') := fun W hW => by
    have := ru16_any (some ⟨bk, off, none⟩) dc l 6 W hW (fun e => by cases e) hll hc hcm (by decide)
    rw [h_z, h_y6] at this
    exact this
  rw [h_z] at hz
  have hz' : (z == 0) = true := by simpa using hz
  have hz2 : (z != 0) = false := by simpa using hz
  have f6' : (f == 6) = false := by simpa using h66
  clear h66
  clear hz
  obtain ⟨a3, ha3⟩ : ∃ a3 : Option Addr, (if dc = 8 then (some ⟨bk, off, none⟩) else Option.map (fun x : Addr => x.add 8) (some ⟨bk, off, none⟩)) = a3 := ⟨_, rfl⟩
  have H3 : Hid ((if dc = 8 then some (⟨bk, off, none⟩ : Addr) else some ⟨bk, off + 8, none⟩) = a3) := by
    have : (if dc = 8 then some (⟨bk, off, none⟩ : Addr) else some ⟨bk, off + 8, none⟩) = a3 := by
      rw [← ha3]
      simp [Go.WideShapes.add_plain]
    exact this
  have h3' : (if dc = 8 then some (⟨bk, off, none⟩ : Addr) else some ⟨bk, off + 8, none⟩) = a3 := H3.out
  obtain ⟨c3, hc3⟩ : ∃ c3, dc - 8 = c3 := ⟨_, rfl⟩
  have hn3 : a3 = none → c3 = 0 := fun e => by
    rw [e] at ha3
    split at ha3
    · cases ha3
    · cases ha3
  obtain ⟨D, hD⟩ : ∃ D, (l.take nn).drop 8 = D := ⟨_, rfl⟩
  have lD : D.length = nn - 8 := by rw [← hD, List.length_drop, List.length_take]; omega
  have HRD : Hid (∀ W, Row W (some ⟨bk, off, none⟩) l → Row W a3 D) := fun W hW => by
    have hr := (hW.take nn).drop dc 8 (by rw [List.length_take]; omega)
    rw [ha3, hD] at hr
    exact hr
  have HlD : Hid (D.length = nn - 8 ∧ dc - 8 = c3) := ⟨lD, hc3⟩
  rw [hnt, hD]
  have j8 : (8 : Int) ≤ (nn : Int) := by omega
  clear ha3 hD lD hc3
  clear hnt hn
  clear h_nI h_y4 h_z h_y6
  go_enter Try.func35, Try.ntmps35
  go_wp2_with fail
  refine Calls.mono (K4.out _ (h.below b3)) ?_
  rintro e W4 ⟨rfl, bb⟩
  have P4 := P3.kept bb
  have S4 := S3.kept bb
  have R4 := R3.kept bb
  have b4 := bel_tr b3 bb
  clear K4 bb P3 S3 R3 b3 d14 hW1 hW2 hW3
  go_wp2_with fail
  refine Calls.mono (K6.out _ (h.below b4)) ?_
  rintro e W5 ⟨rfl, bb⟩
  have P5 := P4.kept bb
  have S5 := S4.kept bb
  have R5 := R4.kept bb
  have b5 := bel_tr b4 bb
  clear K6 bb P4 S4 R4 b4
  go_wp2_with fail
  refine wp_region_noPanic ?_
  refine wp_region_held_drew (S := fun w' => Blk w' w.heap.size 36 (sRa f sf sh sl df dh dl 17 ho fg id of mo xa xn xc (some ⟨bk, off, none⟩) l.length dc) ∧ w'.cell? ⟨w.heap.size, 0, none⟩ = some (.int .i64 f)) (by kernel_rfl) (by exact ⟨P5.drew, P5.drew.cell 0 _ rfl⟩) (fun hHeld => ?_)
  refine tk (i := 0) (oi := sgrR30o24) (v := (.int .i64 z)) hHeld ?_ ?_
  · intro w9 hSw
    try dsimp only at hSw
    go_simp
  try simp only [pu]
  refine tk (i := 1) (oi := sgrR30o14) (v := (.bool true)) hHeld ?_ ?_
  · intro w9 hSw
    try dsimp only at hSw
    go_simp
  try simp only [pu]
  refine tk (i := 2) (oi := sgrR30o23) (v := (.bool true)) hHeld ?_ ?_
  · intro w9 hSw
    try dsimp only at hSw
    go_simp
  try simp only [pu]
  refine tk (i := 3) (oi := sgrR30o18) (v := (.pointer (some ⟨w.heap.size, 0, none⟩))) hHeld ?_ ?_
  · intro w9 hSw
    try dsimp only at hSw
    go_simp
  try simp only [pu]
  refine tk (i := 4) (oi := sgrR30o13) (v := (.int .i64 f)) hHeld ?_ ?_
  · intro w9 hSw
    try dsimp only at hSw
    go_simp
  try simp only [pu]
  refine tk (i := 5) (oi := sgrR30o7) (v := (.bool false)) hHeld ?_ ?_
  · intro w9 hSw
    try dsimp only at hSw
    go_simp
  try simp only [pu]
  refine tk (i := 6) (oi := sgrR30o9) (v := (.bool false)) hHeld ?_ ?_
  · intro w9 hSw
    try dsimp only at hSw
    go_simp
  try simp only [pu]
  refine tk (i := 7) (oi := sgrR30o15) (v := (.bool false)) hHeld ?_ ?_
  · intro w9 hSw
    try dsimp only at hSw
    go_simp
  try simp only [pu]
  refine tk (i := 8) (oi := sgrR30o22) (v := (.int .i64 z)) hHeld ?_ ?_
  · intro w9 hSw
    try dsimp only at hSw
    go_simp
  try simp only [pu]
  refine tk (i := 9) (oi := sgrR30o6) (v := (.bool false)) hHeld ?_ ?_
  · intro w9 hSw
    try dsimp only at hSw
    go_simp
  try simp only [pu]
  refine tk (i := 10) (oi := sgrR30o8) (v := (.bool false)) hHeld ?_ ?_
  · intro w9 hSw
    try dsimp only at hSw
    go_simp
  try simp only [pu]
  refine wpAnyH_take (i := 11) (oi := sgrR30o16) (v := undef) rfl (by kernel_rfl) (by kernel_rfl) (by kernel_rfl) (fun _ _ _ h => h) (.inr ⟨by kernel_rfl, rfl⟩) hHeld ?_
  try simp only [pu]
  refine wpAnyH_take (i := 12) (oi := sgrR30o11) (v := undef) rfl (by kernel_rfl) (by kernel_rfl) (by kernel_rfl) (fun _ _ _ h => h) (.inr ⟨by kernel_rfl, rfl⟩) hHeld ?_
  try simp only [pu]
  refine wpAnyH_take (i := 13) (oi := sgrR30o17) (v := undef) rfl (by kernel_rfl) (by kernel_rfl) (by kernel_rfl) (fun _ _ _ h => h) (.inr ⟨by kernel_rfl, rfl⟩) hHeld ?_
  try simp only [pu]
  refine wpAnyH_take (i := 14) (oi := sgrR30o12) (v := undef) rfl (by kernel_rfl) (by kernel_rfl) (by kernel_rfl) (fun _ _ _ h => h) (.inr ⟨by kernel_rfl, rfl⟩) hHeld ?_
  try simp only [pu]
  refine wpAnyH_take (i := 15) (oi := sgrR30o20) (v := undef) rfl (by kernel_rfl) (by kernel_rfl) (by kernel_rfl) (fun _ _ _ h => h) (.inr ⟨by kernel_rfl, rfl⟩) hHeld ?_
  try simp only [pu]
  refine wpAnyH_take (i := 16) (oi := sgrR30o0) (v := undef) rfl (by kernel_rfl) (by kernel_rfl) (by kernel_rfl) (fun _ _ _ h => h) (.inr ⟨by kernel_rfl, rfl⟩) hHeld ?_
  try simp only [pu]
  refine wpAnyH_take (i := 17) (oi := sgrR30o19) (v := undef) rfl (by kernel_rfl) (by kernel_rfl) (by kernel_rfl) (fun _ _ _ h => h) (.inr ⟨by kernel_rfl, rfl⟩) hHeld ?_
  try simp only [pu]
  refine wpAnyH_take (i := 18) (oi := sgrR30o21) (v := undef) rfl (by kernel_rfl) (by kernel_rfl) (by kernel_rfl) (fun _ _ _ h => h) (.inr ⟨by kernel_rfl, rfl⟩) hHeld ?_
  try simp only [pu]
  refine wpAnyH_take (i := 19) (oi := sgrR30o3) (v := undef) rfl (by kernel_rfl) (by kernel_rfl) (by kernel_rfl) (fun _ _ _ h => h) (.inr ⟨by kernel_rfl, rfl⟩) hHeld ?_
  try simp only [pu]
  refine wpAnyH_take (i := 20) (oi := sgrR30o2) (v := undef) rfl (by kernel_rfl) (by kernel_rfl) (by kernel_rfl) (fun _ _ _ h => h) (.inr ⟨by kernel_rfl, rfl⟩) hHeld ?_
  try simp only [pu]
  refine wpAnyH_take (i := 21) (oi := sgrR30o1) (v := undef) rfl (by kernel_rfl) (by kernel_rfl) (by kernel_rfl) (fun _ _ _ h => h) (.inr ⟨by kernel_rfl, rfl⟩) hHeld ?_
  try simp only [pu]
  refine wpAnyH_take (i := 22) (oi := sgrR30o5) (v := undef) rfl (by kernel_rfl) (by kernel_rfl) (by kernel_rfl) (fun _ _ _ h => h) (.inr ⟨by kernel_rfl, rfl⟩) hHeld ?_
  try simp only [pu]
  refine tk (i := 23) (oi := sgrR30o4) (v := (.bool false)) hHeld ?_ ?_
  · intro w9 hSw
    try dsimp only at hSw
    go_simp
  try simp only [pu]
  refine tk (i := 24) (oi := sgrR30o10) (v := (.bool false)) hHeld ?_ ?_
  · intro w9 hSw
    try dsimp only at hSw
    go_simp
  try simp only [pu]
  refine wpAnyH_done (by kernel_rfl) ?_ _
  refine NoPanic.normal ?_
  have S6 := S5.drew
  have R6 := R5.drew
  have b6 := b5.drew
  obtain ⟨W6, hW6⟩ : ∃ W, W5.drew = W := ⟨_, rfl⟩
  rw [hW6] at S6 R6 b6 ⊢
  clear hW6 S5 R5 b5 P5 hHeld
  have rD := HRD.out _ (h.below b6)
  go_wp2_with (at_builtin; refine wpList_app2 _ rfl _ _ rfl W6.heap.size _ [] rfl (Owns.nil _ _) M.Bytes.nil a3 c3 D ?appV rD hn3 D rfl ?appC (Nat.le_refl _) ?_)
  case appV => (obtain ⟨q1, q2⟩ := HlD.out; rw [q1, ← q2, ← H3.out]; try rfl)
  case appC => exact rD.small
  intro aD cD W11a OD rmD nlD rwD bb _
  have S11a := S6.kept bb
  have R11a := R6.kept bb
  have b11a := bel_tr b6 bb
  have lt11 : W2.heap.size < W6.heap.size := R6.lt
  have OD' := owns_le (B' := W2.heap.size + 1) lt11 OD
  clear bb S6 R6 b6 OD
  have s_11 := S11a.cell 27 (.slice none 0 0) rfl
  have z_11 := S11a.frozen 27
  have S11 : Blk (W11a.setCell ⟨W1.heap.size, 27, none⟩ (.slice aD D.length cD)) W1.heap.size 38 (sRc f 17 sf sh sl df dh dl 0 0 0 0 0 0 0 0 false 0 0 0 0 0 0 0 0 0 0 aD D.length cD) := S11a.put 27 (.slice aD D.length cD)
  have R11 := R11a.put_other S11a (show W2.heap.size ≠ W1.heap.size by omega) 27 (.slice aD D.length cD)
  have O11 := OD'.blk_put S11a (by decide) 27 (.slice aD D.length cD)
  have b11 := b11a.setCell (p := ⟨W1.heap.size, 27, none⟩) (show w.heap.size ≤ W1.heap.size by omega) (.slice aD D.length cD)
  obtain ⟨W11, hW11⟩ : ∃ W, W11a.setCell ⟨W1.heap.size, 27, none⟩ (.slice aD D.length cD) = W := ⟨_, rfl⟩
  rw [hW11] at S11 R11 b11 O11
  clear S11a R11a b11a OD'
  have Rf := R11.set (sRc f 17 sf sh sl df dh dl 0 0 0 0 0 0 0 0 false 0 0 0 0 0 0 0 0 0 0 aD D.length cD)
  have bf := below_setRow b11 (show w.heap.size ≤ W2.heap.size by omega) (sRc f 17 sf sh sl df dh dl 0 0 0 0 0 0 0 0 false 0 0 0 0 0 0 0 0 0 0 aD D.length cD)
  have Of := O11.blk_other R11 (by decide) (sRc f 17 sf sh sl df dh dl 0 0 0 0 0 0 0 0 false 0 0 0 0 0 0 0 0 0 0 aD D.length cD)
  go_wp2_with (first
    | (refine wpList_load_row rfl _ _ rfl W1.heap.size (by rfl) _ _ _ _ S11 Try.underlying38 rfl (by kernel_rfl) ?_)
    | (refine wpList_store_row rfl _ _ _ rfl W2.heap.size (sRc f 17 sf sh sl df dh dl 0 0 0 0 0 0 0 0 false 0 0 0 0 0 0 0 0 0 0 aD D.length cD) (by rfl) (by rfl) _ _ R11 (by kernel_rfl) (by rfl) (by kernel_rfl) ?_))
  refine ret_cell_tmp (k := 4) (j := 5) Try.f35 (by kernel_rfl) Rf Try.underlying38 (by kernel_rfl) (by rfl) (by rfl) rfl ?_
  exact ⟨aD, cD, rfl, owns_le (by omega) Of, rmD, nlD, Of.row rwD.small rwD.bytes, bf⟩
set_option maxRecDepth 100000 in
set_option maxHeartbeats 4000000 in
theorem rudp_okb (f sf sh sl df dh dl ho : Int) (fg : Bool) (id of : Int) (mo : Bool) (xa : Option Addr) (xn xc : Nat) (bk off dc : Nat) (l : List Int) (w : World) (h : Row w (some ⟨bk, off, none⟩) l) (hll : l.length ≤ 140737488351232) (hc : l.length ≤ dc) (hcm : dc ≤ 9223372036854775807) (hs : Ad.ok ⟨sf, sh, sl⟩) (hd : Ad.ok ⟨df, dh, dl⟩) (h8 : ¬ l.length < 8) (h5 : ¬ u16v l 4 < 8) (h6 : ¬ u16v l 4 > (l.length : Int)) (hz : ¬ u16v (l.take (u16v l 4).toNat) 6 = 0) (hsum : sumsB ⟨sf, sh, sl⟩ ⟨df, dh, dl⟩ 17 (l.take (u16v l 4).toNat) = true) :
    Calls Try.prog 35 #[.agg (sRa f sf sh sl df dh dl 17 ho fg id of mo xa xn xc (some ⟨bk, off, none⟩) l.length dc), .agg (sRc f 17 sf sh sl df dh dl 0 0 0 0 0 0 0 0 false 0 0 0 0 0 0 0 0 0 0 none 0 0)] w (GotS w 0 ⟨⟨f, 17, ⟨sf, sh, sl⟩, ⟨df, dh, dl⟩, 0, 0⟩, 0, 0, 0, 0, 0, 0, false, zTp, ((l.take (u16v l 4).toNat).drop 8)⟩) := by
  obtain ⟨W1, hW1⟩ : ∃ W1, w.alloc (.cells (sRa f sf sh sl df dh dl 17 ho fg id of mo xa xn xc (some ⟨bk, off, none⟩) l.length dc) 36) = W1 := ⟨_, rfl⟩
  obtain ⟨W2, hW2⟩ : ∃ W2, W1.alloc (.cells (sRc f 17 sf sh sl df dh dl 0 0 0 0 0 0 0 0 false 0 0 0 0 0 0 0 0 0 0 none 0 0) 38) = W2 := ⟨_, rfl⟩
  obtain ⟨W3, hW3⟩ : ∃ W3, W2.alloc (.cells (sRc 0 0 0 0 0 0 0 0 0 0 0 0 0 0 0 0 false 0 0 0 0 0 0 0 0 0 0 none 0 0) 38) = W3 := ⟨_, rfl⟩
  have b1 := bel_nw hW1
  have b2 := bel_al b1 hW2
  have b3 := bel_al b2 hW3
  have P1 := blk_nw hW1
  have P2 := P1.al hW2
  have P3 := P2.al hW3
  have S2 := blk_nw hW2
  have S3 := S2.al hW3
  have R3 := blk_nw hW3
  have g1 : w.heap.size < W1.heap.size := P1.lt
  have g2 : W1.heap.size < W2.heap.size := S2.lt
  have d14 := P3.cell 14 (.slice (some ⟨bk, off, none⟩) l.length dc) rfl
  clear P1 P2 S2 b1 b2
  have h8' : ¬ (l.length : Int) < 8 := by omega
  obtain ⟨nn, hn⟩ := Int.eq_ofNat_of_zero_le (u16v_bd h.bytes 4).1
  obtain ⟨nI, h_nI⟩ : ∃ x, u16v l 4 = x := ⟨_, rfl⟩
  obtain ⟨y4, h_y4⟩ : ∃ x, liesB l.length 4 2 = x := ⟨_, rfl⟩
  have K4 : Hid (∀ W, Row W (some ⟨bk, off, none⟩) l → Calls Try.prog 60 #[.slice (some ⟨bk, off, none⟩) l.length dc, .int .i64 4] W fun e w' => e = .returned (.tuple #[.int .i64 nI, .bool y4]) ∧ Below W.heap.size W w') := fun W hW => by
    have := ru16_any (some ⟨bk, off, none⟩) dc l 4 W hW (fun e => by cases e) hll hc hcm (by decide)
    rw [h_nI, h_y4] at this
    exact this
  have hnI : nI = (nn : Int) := by rw [← h_nI]; exact hn
  subst hnI
  rw [hn] at h5 h6
  have n8 : 8 ≤ nn := by omega
  have nl : nn ≤ l.length := by omega
  have j1 : (0 : Int) ≤ (nn : Int) := by omega
  have j2 : (nn : Int) ≤ (dc : Int) := by omega
  have j3 : nn ≤ dc := by omega
  have hnt : (u16v l 4).toNat = nn := by rw [hn]; simp
  rw [hnt] at hz
  rw [u16v_take n8 nl] at hz
  obtain ⟨z, h_z⟩ : ∃ x, u16v l 6 = x := ⟨_, rfl⟩
  obtain ⟨y6, h_y6⟩ : ∃ x, liesB l.length 6 2 = x := ⟨_, rfl⟩
  have K6 : Hid (∀ W, Row W (some ⟨bk, off, none⟩) l → Calls Try.prog 60 #[.slice (some ⟨bk, off, none⟩) l.length dc, .int .i64 6] W fun e w' => e = .returned (.tuple #[.int .i64 z, .bool y6]) ∧ Below W.heap.size W w') := fun W hW => by
    have := ru16_any (some ⟨bk, off, none⟩) dc l 6 W hW (fun e => by cases e) hll hc hcm (by decide)
    rw [h_z, h_y6] at this
    exact this
  rw [h_z] at hz
  have hz' : (z == 0) = false := by simpa using hz
  have hz2 : (z != 0) = true := by simpa using hz
  clear hz
  obtain ⟨a3, ha3⟩ : ∃ a3 : Option Addr, (if dc = 8 then (some ⟨bk, off, none⟩) else Option.map (fun x : Addr => x.add 8) (some ⟨bk, off, none⟩)) = a3 := ⟨_, rfl⟩
  have H3 : Hid ((if dc = 8 then some (⟨bk, off, none⟩ : Addr) else some ⟨bk, off + 8, none⟩) = a3) := by
    have : (if dc = 8 then some (⟨bk, off, none⟩ : Addr) else some ⟨bk, off + 8, none⟩) = a3 := by
      rw [← ha3]
      simp [Go.WideShapes.add_plain]
    exact this
  have h3' : (if dc = 8 then some (⟨bk, off, none⟩ : Addr) else some ⟨bk, off + 8, none⟩) = a3 := H3.out
  obtain ⟨c3, hc3⟩ : ∃ c3, dc - 8 = c3 := ⟨_, rfl⟩
  have hn3 : a3 = none → c3 = 0 := fun e => by
    rw [e] at ha3
    split at ha3
    · cases ha3
    · cases ha3
  obtain ⟨D, hD⟩ : ∃ D, (l.take nn).drop 8 = D := ⟨_, rfl⟩
  have lD : D.length = nn - 8 := by rw [← hD, List.length_drop, List.length_take]; omega
  have HRD : Hid (∀ W, Row W (some ⟨bk, off, none⟩) l → Row W a3 D) := fun W hW => by
    have hr := (hW.take nn).drop dc 8 (by rw [List.length_take]; omega)
    rw [ha3, hD] at hr
    exact hr
  have HlD : Hid (D.length = nn - 8 ∧ dc - 8 = c3) := ⟨lD, hc3⟩
  rw [hnt, hD]
  have j8 : (8 : Int) ≤ (nn : Int) := by omega
  clear ha3 hD lD hc3
  rw [hnt] at hsum
  obtain ⟨b, hb⟩ : ∃ b, l.take nn = b := ⟨_, rfl⟩
  have lb : b.length = nn := by rw [← hb, List.length_take]; omega
  rw [hb] at hsum
  obtain ⟨L0, hL0⟩ : ∃ L, ahead ⟨sf, sh, sl⟩ ⟨df, dh, dl⟩ 17 b.length = L := ⟨_, rfl⟩
  obtain ⟨SM, hSM⟩ : ∃ s, M.sumOf [L0, b] = s := ⟨_, rfl⟩
  have KP : Hid (∀ W, Calls Try.prog 12 #[.agg #[.int .i64 sf, .int .u64 sh, .int .u64 sl], .agg #[.int .i64 df, .int .u64 dh, .int .u64 dl], .int .i64 17, .int .i64 (nn : Int)] W fun e w' => ∃ a c, e = .returned (.slice a L0.length c) ∧ Fresh W w' a c L0) := fun W => by
    have := rpseudo_any sf sh sl df dh dl 17 (b.length : Int) W hs hd
    have e : pseudo ⟨sf, sh, sl⟩ ⟨df, dh, dl⟩ 17 (b.length : Int) = L0 := by
      rw [← hL0]
      unfold ahead
      rw [if_neg (by decide)]
    rw [e, lb] at this
    exact this
  have hs65 : (SM != 65535) = false := by
    unfold sumsB at hsum
    rw [hL0, hSM] at hsum
    simp at hsum
    simpa using hsum
  have KC : Hid (∀ W a' c', Row W a' L0 → Row W (some ⟨bk, off, none⟩) l → Calls Try.prog 46 #[.slice (some ⟨W.heap.size, 0, none⟩) 2 2] (W.alloc (.cells #[.slice a' L0.length c', .slice (some ⟨bk, off, none⟩) nn dc] 28)) fun e w' => e = .returned (.int .i64 SM) ∧ w' = W.alloc (.cells #[.slice a' L0.length c', .slice (some ⟨bk, off, none⟩) nn dc] 28)) := fun W a' c' h1 h2 => by
    have := refsum_any (some ⟨W.heap.size, 0, none⟩) 2 [L0, b] _ (rowss_two W 28 W.heap.size rfl a' (some ⟨bk, off, none⟩) c' dc L0 b h1 (by rw [← hb]; exact h2.take nn))
    rw [hSM, lb] at this
    exact this
  clear hL0 hSM hsum
  clear hnt hn hb lb
  clear h_nI h_y4 h_z h_y6
  go_enter Try.func35, Try.ntmps35
  go_wp2_with fail
  refine Calls.mono (K4.out _ (h.below b3)) ?_
  rintro e W4 ⟨rfl, bb⟩
  have P4 := P3.kept bb
  have S4 := S3.kept bb
  have R4 := R3.kept bb
  have b4 := bel_tr b3 bb
  clear K4 bb P3 S3 R3 b3 d14 hW1 hW2 hW3
  go_wp2_with fail
  refine Calls.mono (K6.out _ (h.below b4)) ?_
  rintro e W5 ⟨rfl, bb⟩
  have P5 := P4.kept bb
  have S5 := S4.kept bb
  have R5 := R4.kept bb
  have b5 := bel_tr b4 bb
  clear K6 bb P4 S4 R4 b4
  go_wp2_with fail
  refine wp_region_noPanic ?_
  refine wp_region_held_drew (S := fun w' => Blk w' w.heap.size 36 (sRa f sf sh sl df dh dl 17 ho fg id of mo xa xn xc (some ⟨bk, off, none⟩) l.length dc) ∧ w'.cell? ⟨w.heap.size, 0, none⟩ = some (.int .i64 f)) (by kernel_rfl) (by exact ⟨P5.drew, P5.drew.cell 0 _ rfl⟩) (fun hHeld => ?_)
  refine tk (i := 0) (oi := sgrR30o24) (v := (.int .i64 z)) hHeld ?_ ?_
  · intro w9 hSw
    try dsimp only at hSw
    go_simp
  try simp only [pu]
  refine tk (i := 1) (oi := sgrR30o14) (v := (.bool false)) hHeld ?_ ?_
  · intro w9 hSw
    try dsimp only at hSw
    go_simp
  try simp only [pu]
  refine tk (i := 2) (oi := sgrR30o23) (v := (.bool false)) hHeld ?_ ?_
  · intro w9 hSw
    try dsimp only at hSw
    go_simp
  try simp only [pu]
  refine wpAnyH_take (i := 3) (oi := sgrR30o18) (v := undef) rfl (by kernel_rfl) (by kernel_rfl) (by kernel_rfl) (fun _ _ _ h => h) (.inr ⟨by kernel_rfl, rfl⟩) hHeld ?_
  try simp only [pu]
  refine wpAnyH_take (i := 4) (oi := sgrR30o13) (v := undef) rfl (by kernel_rfl) (by kernel_rfl) (by kernel_rfl) (fun _ _ _ h => h) (.inr ⟨by kernel_rfl, rfl⟩) hHeld ?_
  try simp only [pu]
  refine wpAnyH_take (i := 5) (oi := sgrR30o7) (v := undef) rfl (by kernel_rfl) (by kernel_rfl) (by kernel_rfl) (fun _ _ _ h => h) (.inr ⟨by kernel_rfl, rfl⟩) hHeld ?_
  try simp only [pu]
  refine tk (i := 6) (oi := sgrR30o9) (v := (.bool false)) hHeld ?_ ?_
  · intro w9 hSw
    try dsimp only at hSw
    go_simp
  try simp only [pu]
  refine tk (i := 7) (oi := sgrR30o15) (v := (.bool false)) hHeld ?_ ?_
  · intro w9 hSw
    try dsimp only at hSw
    go_simp
  try simp only [pu]
  refine tk (i := 8) (oi := sgrR30o22) (v := (.int .i64 z)) hHeld ?_ ?_
  · intro w9 hSw
    try dsimp only at hSw
    go_simp
  try simp only [pu]
  refine tk (i := 9) (oi := sgrR30o6) (v := (.bool true)) hHeld ?_ ?_
  · intro w9 hSw
    try dsimp only at hSw
    go_simp
  try simp only [pu]
  refine tk (i := 10) (oi := sgrR30o8) (v := (.bool true)) hHeld ?_ ?_
  · intro w9 hSw
    try dsimp only at hSw
    go_simp
  try simp only [pu]
  refine tk (i := 11) (oi := sgrR30o16) (v := (.pointer (some ⟨w.heap.size, 1, none⟩))) hHeld ?_ ?_
  · intro w9 hSw
    try dsimp only at hSw
    go_simp
  try simp only [pu]
  refine wpAnyH_take (i := 12) (oi := sgrR30o11) (v := (.agg #[.int .i64 sf, .int .u64 sh, .int .u64 sl])) rfl (by kernel_rfl) (by kernel_rfl) (by kernel_rfl) (fun _ _ _ h => h) (yieldsIf_sub_w (by kernel_rfl) _ _ rfl w.heap.size 1 36 (by rfl) _ _ (fun _ hSw => hSw.1) (by rfl) Try.underlying24 (by kernel_rfl)) hHeld ?_
  try simp only [pu]
  refine tk (i := 13) (oi := sgrR30o17) (v := (.pointer (some ⟨w.heap.size, 4, none⟩))) hHeld ?_ ?_
  · intro w9 hSw
    try dsimp only at hSw
    go_simp
  try simp only [pu]
  refine wpAnyH_take (i := 14) (oi := sgrR30o12) (v := (.agg #[.int .i64 df, .int .u64 dh, .int .u64 dl])) rfl (by kernel_rfl) (by kernel_rfl) (by kernel_rfl) (fun _ _ _ h => h) (yieldsIf_sub_w (by kernel_rfl) _ _ rfl w.heap.size 4 36 (by rfl) _ _ (fun _ hSw => hSw.1) (by rfl) Try.underlying24 (by kernel_rfl)) hHeld ?_
  try simp only [pu]
  refine tk (i := 15) (oi := sgrR30o20) (v := (.int .i64 (nn : Int))) hHeld ?_ ?_
  · intro w9 hSw
    try dsimp only at hSw
    go_simp
  try simp only [pu]
  refine tk (i := 17) (oi := sgrR30o19) (v := (.slice (some ⟨bk, off, none⟩) l.length dc)) hHeld ?_ ?_
  · intro w9 hSw
    try dsimp only at hSw
    go_simp
  try simp only [pu]
  refine tk (i := 18) (oi := sgrR30o21) (v := (.int .i64 (nn : Int))) hHeld ?_ ?_
  · intro w9 hSw
    try dsimp only at hSw
    go_simp
  try simp only [pu]
  refine tk (i := 19) (oi := sgrR30o3) (v := (.slice (some ⟨bk, off, none⟩) nn dc)) hHeld ?_ ?_
  · intro w9 hSw
    try dsimp only at hSw
    go_simp
  try simp only [pu]
  refine wpAnyH_ready (rs := [16]) (by kernel_rfl) (by simp) ?_
  refine AllReadyH.cons (o := sgrR30o0) rfl (fun K hK => ?_) AllReadyH.nil
  go_simp
  refine Calls.mono (KP.out _) ?_
  rintro e W6 ⟨a6, c6, rfl, f6⟩
  have P6 := P5.drew.kept f6.below
  have S6a := S5.drew.kept f6.below
  have R6a := R5.drew.kept f6.below
  have b6a : Below w.heap.size w W6 := b5.drew.trans (f6.below.mono b5.drew.size)
  refine hK.out _ _ ?_ (fun hHeld => ?_)
  · exact ⟨P6, P6.cell 0 _ rfl⟩
  clear hK K
  try simp only [pu]
  refine wpAnyH_ready (rs := [20]) (by kernel_rfl) (by simp) ?_
  refine AllReadyH.cons (o := sgrR30o2) rfl (fun K hK => ?_) AllReadyH.nil
  go_simp
  refine hK.out _ _ (by exact ⟨P6.alloc _, (P6.alloc _).cell 0 _ rfl⟩) (fun hHeld => ?_)
  clear hK K
  try simp only [pu]
  refine wpAnyH_ready (rs := [21]) (by kernel_rfl) (by simp) ?_
  refine AllReadyH.cons (o := sgrR30o1) rfl (fun K hK => ?_) AllReadyH.nil
  go_simp
  refine Calls.mono (KC.out _ _ _ f6.row (h.below b6a)) ?_
  rintro e W7 ⟨rfl, hW7⟩
  rw [hW7]
  clear hW7 W7
  refine hK.out _ _ ?_ (fun hHeld => ?_)
  · exact ⟨P6.alloc _, (P6.alloc _).cell 0 _ rfl⟩
  clear hK K
  try simp only [pu]
  refine tk (i := 22) (oi := sgrR30o5) (v := (.bool false)) hHeld ?_ ?_
  · intro w9 hSw
    try dsimp only at hSw
    go_simp
  try simp only [pu]
  refine tk (i := 23) (oi := sgrR30o4) (v := (.bool false)) hHeld ?_ ?_
  · intro w9 hSw
    try dsimp only at hSw
    go_simp
  try simp only [pu]
  refine tk (i := 24) (oi := sgrR30o10) (v := (.bool false)) hHeld ?_ ?_
  · intro w9 hSw
    try dsimp only at hSw
    go_simp
  try simp only [pu]
  refine wpAnyH_done (by kernel_rfl) ?_ _
  refine NoPanic.normal ?_
  have S6 := S6a.alloc (.cells #[.slice a6 L0.length c6, .slice (some ⟨bk, off, none⟩) nn dc] 28)
  have R6 := R6a.alloc (.cells #[.slice a6 L0.length c6, .slice (some ⟨bk, off, none⟩) nn dc] 28)
  have b6 := b6a.alloc b6a.size (.cells #[.slice a6 L0.length c6, .slice (some ⟨bk, off, none⟩) nn dc] 28)
  obtain ⟨W8, hW8⟩ : ∃ W, W6.alloc (.cells #[.slice a6 L0.length c6, .slice (some ⟨bk, off, none⟩) nn dc] 28) = W := ⟨_, rfl⟩
  rw [hW8] at S6 R6 b6 ⊢
  clear hW8 S6a R6a b6a P6 f6 P5 S5 R5 b5 hHeld
  have rD := HRD.out _ (h.below b6)
  go_wp2_with (at_builtin; refine wpList_app2 _ rfl _ _ rfl W8.heap.size _ [] rfl (Owns.nil _ _) M.Bytes.nil a3 c3 D ?appV rD hn3 D rfl ?appC (Nat.le_refl _) ?_)
  case appV => (obtain ⟨q1, q2⟩ := HlD.out; rw [q1, ← q2, ← H3.out]; try rfl)
  case appC => exact rD.small
  intro aD cD W11a OD rmD nlD rwD bb _
  have S11a := S6.kept bb
  have R11a := R6.kept bb
  have b11a := bel_tr b6 bb
  have lt11 : W2.heap.size < W8.heap.size := R6.lt
  have OD' := owns_le (B' := W2.heap.size + 1) lt11 OD
  clear bb S6 R6 b6 OD
  have s_11 := S11a.cell 27 (.slice none 0 0) rfl
  have z_11 := S11a.frozen 27
  have S11 : Blk (W11a.setCell ⟨W1.heap.size, 27, none⟩ (.slice aD D.length cD)) W1.heap.size 38 (sRc f 17 sf sh sl df dh dl 0 0 0 0 0 0 0 0 false 0 0 0 0 0 0 0 0 0 0 aD D.length cD) := S11a.put 27 (.slice aD D.length cD)
  have R11 := R11a.put_other S11a (show W2.heap.size ≠ W1.heap.size by omega) 27 (.slice aD D.length cD)
  have O11 := OD'.blk_put S11a (by decide) 27 (.slice aD D.length cD)
  have b11 := b11a.setCell (p := ⟨W1.heap.size, 27, none⟩) (show w.heap.size ≤ W1.heap.size by omega) (.slice aD D.length cD)
  obtain ⟨W11, hW11⟩ : ∃ W, W11a.setCell ⟨W1.heap.size, 27, none⟩ (.slice aD D.length cD) = W := ⟨_, rfl⟩
  rw [hW11] at S11 R11 b11 O11
  clear S11a R11a b11a OD'
  have Rf := R11.set (sRc f 17 sf sh sl df dh dl 0 0 0 0 0 0 0 0 false 0 0 0 0 0 0 0 0 0 0 aD D.length cD)
  have bf := below_setRow b11 (show w.heap.size ≤ W2.heap.size by omega) (sRc f 17 sf sh sl df dh dl 0 0 0 0 0 0 0 0 false 0 0 0 0 0 0 0 0 0 0 aD D.length cD)
  have Of := O11.blk_other R11 (by decide) (sRc f 17 sf sh sl df dh dl 0 0 0 0 0 0 0 0 false 0 0 0 0 0 0 0 0 0 0 aD D.length cD)
  go_wp2_with (first
    | (refine wpList_load_row rfl _ _ rfl W1.heap.size (by rfl) _ _ _ _ S11 Try.underlying38 rfl (by kernel_rfl) ?_)
    | (refine wpList_store_row rfl _ _ _ rfl W2.heap.size (sRc f 17 sf sh sl df dh dl 0 0 0 0 0 0 0 0 false 0 0 0 0 0 0 0 0 0 0 aD D.length cD) (by rfl) (by rfl) _ _ R11 (by kernel_rfl) (by rfl) (by kernel_rfl) ?_))
  refine ret_cell_tmp (k := 4) (j := 5) Try.f35 (by kernel_rfl) Rf Try.underlying38 (by kernel_rfl) (by rfl) (by rfl) rfl ?_
  exact ⟨aD, cD, rfl, owns_le (by omega) Of, rmD, nlD, Of.row rwD.small rwD.bytes, bf⟩
theorem rudp_any (f sf sh sl df dh dl ho : Int) (fg : Bool) (id of : Int) (mo : Bool) (xa : Option Addr) (xn xc : Nat) (bk off dc : Nat) (l : List Int) (w : World) (h : Row w (some ⟨bk, off, none⟩) l) (hll : l.length ≤ 140737488351232) (hc : l.length ≤ dc) (hcm : dc ≤ 9223372036854775807) (hs : Ad.ok ⟨sf, sh, sl⟩) (hd : Ad.ok ⟨df, dh, dl⟩) (h8 : ¬ l.length < 8) :
    ∃ Y : Sg, Calls Try.prog 35 #[.agg (sRa f sf sh sl df dh dl 17 ho fg id of mo xa xn xc (some ⟨bk, off, none⟩) l.length dc), .agg (sRc f 17 sf sh sl df dh dl 0 0 0 0 0 0 0 0 false 0 0 0 0 0 0 0 0 0 0 none 0 0)] w (GotS w (udpE f 17 ⟨sf, sh, sl⟩ ⟨df, dh, dl⟩ l) Y) ∧ (udpE f 17 ⟨sf, sh, sl⟩ ⟨df, dh, dl⟩ l = 0 → Y = ⟨⟨f, 17, ⟨sf, sh, sl⟩, ⟨df, dh, dl⟩, 0, 0⟩, 0, 0, 0, 0, 0, 0, false, zTp, ((l.take (u16v l 4).toNat).drop 8)⟩) := by
  obtain ⟨E, hE⟩ : ∃ E, udpE f 17 ⟨sf, sh, sl⟩ ⟨df, dh, dl⟩ l = E := ⟨_, rfl⟩
  rw [hE]
  unfold udpE at hE
  rw [if_neg h8] at hE
  split at hE
  · rename_i h5
    subst hE
    by_cases h5a : u16v l 4 < 8
    · exact ⟨_, rudp_e5a f sf sh sl df dh dl ho fg id of mo xa xn xc bk off dc l w h hll hc hcm hs hd h8 h5a, fun e => by cases e⟩
    · exact ⟨_, rudp_e5b f sf sh sl df dh dl ho fg id of mo xa xn xc bk off dc l w h hll hc hcm hs hd h8 h5a (by omega), fun e => by cases e⟩
  rename_i h5
  have h5a : ¬ u16v l 4 < 8 := by omega
  have h6a : ¬ u16v l 4 > (l.length : Int) := by omega
  split at hE
  · rename_i hz
    split at hE
    · rename_i h66
      subst hE
      exact ⟨_, rudp_e6a f sf sh sl df dh dl ho fg id of mo xa xn xc bk off dc l w h hll hc hcm hs hd h8 h5a h6a hz h66, fun e => by cases e⟩
    · rename_i h66
      subst hE
      exact ⟨_, rudp_oka f sf sh sl df dh dl ho fg id of mo xa xn xc bk off dc l w h hll hc hcm hs hd h8 h5a h6a hz h66, fun _ => rfl⟩
  · rename_i hz
    split at hE
    · rename_i hsum
      subst hE
      exact ⟨_, rudp_okb f sf sh sl df dh dl ho fg id of mo xa xn xc bk off dc l w h hll hc hcm hs hd h8 h5a h6a hz hsum, fun _ => rfl⟩
    · rename_i hsum
      subst hE
      exact ⟨_, rudp_e6b f sf sh sl df dh dl ho fg id of mo xa xn xc bk off dc l w h hll hc hcm hs hd h8 h5a h6a hz (by simpa using hsum), fun e => by cases e⟩
end Go.Proofs.Ytpjjkdgmfjhfiaa
