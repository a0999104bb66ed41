/- Texts joined: FragNobodyWalk -/
import Derived.Test.YtnggdjjmijocfaaFgn47
namespace Go.Proofs.Ytnggdjjmijocfaa
open Go.RowKit
set_option linter.unusedVariables false
set_option linter.unusedSimpArgs false
theorem row_none (w : World) : Row w none [] := ⟨by simp, fun x hx => by simp at hx, fun h => absurd h (by simp)⟩
set_option maxRecDepth 100000 in
set_option maxHeartbeats 4000000 in
theorem fragNobody_base (tk : Bool) (nw : Int) (f sf sh sl df dh dl pr ho : Int) (fg : Bool) (id of : Int) (mo : Bool) (xa : Option Addr) (xc : Nat) (X : List Int) (da : Option Addr) (dc : Nat) (dat : List Int) (w : World) :
    Calls Try.prog 9 #[.agg #[.bool tk, .int .i64 nw, .int .i64 f, .int .i64 sf, .int .u64 sh, .int .u64 sl, .int .i64 df, .int .u64 dh, .int .u64 dl, .int .i64 pr, .int .i64 ho, .bool fg, .int .u32 id, .int .i64 of, .bool mo, .slice xa X.length xc, .slice da dat.length dc]] w fun e w' => e = .returned (.bool true) ∧ Below w.heap.size w w' := by
  obtain ⟨W1, hW1⟩ : ∃ W, w.alloc (.cells #[.bool tk, .int .i64 nw, .int .i64 f, .int .i64 sf, .int .u64 sh, .int .u64 sl, .int .i64 df, .int .u64 dh, .int .u64 dl, .int .i64 pr, .int .i64 ho, .bool fg, .int .u32 id, .int .i64 of, .bool mo, .slice xa X.length xc, .slice da dat.length dc] 44) = W := ⟨_, rfl⟩
  have hbz : ∀ W, (Instr.build 64 #[]).run Try.prog W = .ok (.agg #[.bool false, .int .i64 0, .int .i64 0, .int .i64 0, .int .i64 0, .int .i64 0, .map none]) W := fun W => by kernel_rfl
  obtain ⟨W2, hW2⟩ : ∃ W, W1.alloc (.cells #[.bool false, .int .i64 0, .int .i64 0, .int .i64 0, .int .i64 0, .int .i64 0, .map none] 64) = W := ⟨_, rfl⟩
  obtain ⟨W3, hW3⟩ : ∃ W, W2.alloc (.cells #[.pointer none, .pointer (some ⟨W1.heap.size, 0, none⟩)] 25) = W := ⟨_, rfl⟩
  have B3 := ((blk_nw hW1).al hW2).al hW3
  have T3 := (blk_nw hW2).al hW3
  have P3 := blk_nw hW3
  have bw : Hid (Below w.heap.size w W3) := bel_al (bel_al (bel_nw hW1) hW2) hW3
  have s2 : W2.heap.size = W1.heap.size + 1 := by rw [← hW2]; simp
  have c1 := T3.cell 0 (.bool false) rfl
  go_enter Try.func9, Try.ntmps9
  go_wp2_with (refine wpList_buildF _ rfl _ _ rfl _ (by rfl) _ (hbz _) ?_)
  have cl : Hid (∀ wr (j : Nat), Below W3.heap.size W3 wr → j < 2 → ∃ po, wr.cell? ⟨W2.heap.size, j, none⟩ = some (.pointer po) ∧ NMf po wr) := fun wr j hb hj => by
    have b3 := P3.kept hb
    rcases (show j = 0 ∨ j = 1 by omega) with rfl | rfl
    · exact ⟨none, b3.cell 0 _ rfl, nmf_nil wr⟩
    · exact ⟨_, b3.cell 1 _ rfl, nmf_at _ wr ((hb.cell (World.block_lt_of_cell? W3 _ c1)).trans c1)⟩
  have Bh : Hid (Blk W3 w.heap.size 44 #[.bool tk, .int .i64 nw, .int .i64 f, .int .i64 sf, .int .u64 sh, .int .u64 sl, .int .i64 df, .int .u64 dh, .int .u64 dl, .int .i64 pr, .int .i64 ho, .bool fg, .int .u32 id, .int .i64 of, .bool mo, .slice xa X.length xc, .slice da dat.length dc]) := B3
  clear B3 T3 P3 c1 hbz
  go_loopw [11] (fun i wr => ∃ j : Nat, j ≤ 2 ∧ i = .int .i64 j ∧ Hid (Below W3.heap.size W3 wr)) (fun i _ => 2 - (intOf i).toNat)
  case atStart => exact ⟨0, by omega, rfl, Below.refl _ _⟩
  case round =>
    obtain ⟨j, hj, rfl, hbl⟩ := hrel
    by_cases hlt : j < 2
    · have i1 : (↑j : Int) < 2 := by omega
      have i0 : (0 : Int) ≤ ↑j := by omega
      obtain ⟨po, cj, nm⟩ := cl.out wr j hbl.out hlt
      have cj' := cj
      rw [s2] at cj'
      have kt : Hid _ := put_un (.pointer po) f sf sh sl df dh dl pr ho fg id of mo xa xc X da dc dat wr nm
      have nm : Hid (NMf po wr) := nm
      have Br := Bh.out.kept hbl.out
      clear cl
      go_wp2_with (refine wpList_load_sub rfl _ _ rfl w.heap.size 2 44 (by rfl) _ #[.int .i64 f, .int .i64 sf, .int .u64 sh, .int .u64 sl, .int .i64 df, .int .u64 dh, .int .u64 dl, .int .i64 pr, .int .i64 ho, .bool fg, .int .u32 id, .int .i64 of, .bool mo, .slice xa X.length xc, .slice da dat.length dc] Br (by rfl) Try.underlying42 (by kernel_rfl) ?_)
      refine Calls.mono kt.out ?_
      rintro e w1 ⟨rfl, q1⟩
      obtain ⟨w2, hw2⟩ : ∃ W, w1.alloc (.cells #[.int .i64 0, .int .i64 0, .int .u64 0, .int .u64 0, .int .i64 0, .int .u64 0, .int .u64 0, .int .i64 0, .int .i64 0, .bool false, .int .u32 0, .int .i64 0, .bool false, .slice none 0 0, .slice none 0 0] 42) = W := ⟨_, rfl⟩
      have R2 := blk_nw hw2
      have R3 := R2.set #[.int .i64 0, .int .i64 0, .int .u64 0, .int .u64 0, .int .i64 0, .int .u64 0, .int .u64 0, .int .i64 0, .int .i64 0, .bool false, .int .u32 0, .int .i64 0, .bool false, .slice none 0 0, .slice none 0 0]
      have k3 := below_setRow (bel_nw hw2) (Nat.le_refl _) #[.int .i64 0, .int .i64 0, .int .u64 0, .int .u64 0, .int .i64 0, .int .u64 0, .int .u64 0, .int .i64 0, .int .i64 0, .bool false, .int .u32 0, .int .i64 0, .bool false, .slice none 0 0, .slice none 0 0]
      obtain ⟨w3, hw3⟩ : ∃ W, w2.setRow w1.heap.size #[.int .i64 0, .int .i64 0, .int .u64 0, .int .u64 0, .int .i64 0, .int .u64 0, .int .u64 0, .int .i64 0, .int .i64 0, .bool false, .int .u32 0, .int .i64 0, .bool false, .slice none 0 0, .slice none 0 0] = W := ⟨_, rfl⟩
      rw [hw3] at R3 k3
      have HW3 : Hid _ := hw3
      clear hw3
      have q3 := bel_tr q1 k3
      have nm3 : Hid (NMf po w3) := nm.out.below q3
      have hbz : (Instr.build 42 #[]).run Try.prog w3 = .ok (.agg #[.int .i64 0, .int .i64 0, .int .u64 0, .int .u64 0, .int .i64 0, .int .u64 0, .int .u64 0, .int .i64 0, .int .i64 0, .bool false, .int .u32 0, .int .i64 0, .bool false, .slice none 0 0, .slice none 0 0]) w3 := by kernel_rfl
      have KS : Hid _ := same_ip 0 0 0 0 0 0 0 0 0 false 0 0 false none 0 none 0 none 0 none 0 [] w3 (row_none w3) (row_none w3)
      clear kt nm cj cj' k3 q1
      go_wp2_with (first
        | (refine wpList_store_row rfl _ _ _ rfl w1.heap.size #[.int .i64 0, .int .i64 0, .int .u64 0, .int .u64 0, .int .i64 0, .int .u64 0, .int .u64 0, .int .i64 0, .int .i64 0, .bool false, .int .u32 0, .int .i64 0, .bool false, .slice none 0 0, .slice none 0 0] (by rfl) (by rfl) _ _ R2 (by kernel_rfl) (by rfl) (by kernel_rfl) ?_; rw [HW3.out])
        | (refine wpList_load_blk_w (by kernel_rfl) _ _ rfl w1.heap.size (by rfl) _ R3 Try.underlying42 (by kernel_rfl) ?_))
      refine Calls.mono KS.out ?_
      rintro e w4 ⟨rfl, k4⟩
      have q4 := bel_tr q3 k4
      have nm4 := nm3.out.below k4
      have c4 := (Br.kept q4).cell 1 (.int .i64 nw) rfl
      have KT : Hid _ := tick_un (.pointer po) nw w4 nm4
      have KG : Hid _ := nbf_grams po w4 nm4
      have KB : Hid _ := nbf_bytes po w4 nm4
      have KN : Hid _ := nbf_now po w4 nm4
      have fb : Hid (Below W3.heap.size W3 w4) := hbl.out.trans (q4.mono hbl.out.size)
      clear KS nm3 nm4 Br q4 q3 k4 R2 R3 HW3 hbz hbl Bh
      go_wp2_with (first
        | (go_at_call 15; refine Calls.mono KT.out ?_; rintro e w' ⟨rfl, rfl⟩)
        | (go_at_call 20; refine Calls.mono KG.out ?_; rintro e w' ⟨rfl, rfl⟩)
        | (go_at_call 21; refine Calls.mono KB.out ?_; rintro e w' ⟨rfl, rfl⟩)
        | (go_at_call 23; refine Calls.mono KN.out ?_; rintro e w' ⟨rfl, rfl⟩))
      exact ⟨⟨j + 1, by omega, int_eq (by omega), fb⟩, by simp [intOf] <;> omega⟩
    · have i1 : ¬ (↑j : Int) < 2 := by omega
      have ka : Hid _ := falive_any wr
      clear cl
      go_wp2_with fail
      refine Calls.mono ka.out ?_
      rintro e w1 ⟨rfl, q1⟩
      go_wp2
      go_ret
      exact ⟨rfl, bw.out.trans ((hbl.out.trans (q1.mono hbl.out.size)).mono bw.out.size)⟩
theorem fragNobody_walk (tk : Bool) (nw : Int) (f sf sh sl df dh dl pr ho : Int) (fg : Bool) (id of : Int) (mo : Bool) (xa : Option Addr) (xn xc : Nat) (da : Option Addr) (dn dc : Nat) (w : World) :
    Calls Try.prog 9 #[.agg #[.bool tk, .int .i64 nw, .int .i64 f, .int .i64 sf, .int .u64 sh, .int .u64 sl, .int .i64 df, .int .u64 dh, .int .u64 dl, .int .i64 pr, .int .i64 ho, .bool fg, .int .u32 id, .int .i64 of, .bool mo, .slice xa xn xc, .slice da dn dc]] w fun e w' => e = .returned (.bool true) ∧ Below w.heap.size w w' := by
  have h := fragNobody_base tk nw f sf sh sl df dh dl pr ho fg id of mo xa xc (List.replicate xn 0) da dc (List.replicate dn 0) w
  simpa only [List.length_replicate] using h
end Go.Proofs.Ytnggdjjmijocfaa
