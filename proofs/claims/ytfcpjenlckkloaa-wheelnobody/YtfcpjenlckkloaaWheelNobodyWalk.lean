/- A wheel that nobody made. -/
import Derived.Test.YtfcpjenlckkloaaWhS
namespace Go.Proofs.Ytfcpjenlckkloaa
open Go.RowKit
set_option linter.unusedVariables false
set_option linter.unusedSimpArgs false

/-- Nobody made this wheel. -/
def NM (po : Option Addr) (w : World) : Prop := ∀ W, Below w.heap.size w W → Calls Try.prog 28 #[.pointer po] W fun e w' => e = .returned (.bool false) ∧ w' = W
theorem NM.below {po : Option Addr} {w w' : World} (h : NM po w) (hb : Below w.heap.size w w') : NM po w' := fun W hW => h W (hb.trans (hW.mono hb.size))
theorem nm_nil (w : World) : NM none w := fun W _ => isMade_nil W
theorem nm_at (g : Nat) (w : World) (h : w.cell? ⟨g, 0, none⟩ = some (.bool false)) : NM (some ⟨g, 0, none⟩) w := fun W hW => isMade_at g false W ((hW.cell (World.block_lt_of_cell? w _ h)).trans h)
theorem nb_set (po : Option Addr) (id at_ : Int) (w : World) (h : NM po w) : Calls Try.prog 14 #[.pointer po, .int .i64 id, .int .i64 at_] w fun e w' => e = .returned (.int .i64 13) ∧ w' = w := by
  have K := h w (Below.refl _ _)
  clear h
  go_enter Try.func14, Try.ntmps14
  go_wp2_with fail
  refine Calls.mono K ?_
  rintro e w' ⟨rfl, rfl⟩
  go_wp2
  go_ret
  exact ⟨rfl, rfl⟩
theorem nb_time (po : Option Addr) (id : Int) (w : World) (h : NM po w) : Calls Try.prog 20 #[.pointer po, .int .i64 id] w fun e w' => e = .returned (.tuple #[.int .i64 0, .bool false]) ∧ w' = w := by
  have K := h w (Below.refl _ _)
  clear h
  go_enter Try.func20, Try.ntmps20
  go_wp2_with fail
  refine Calls.mono K ?_
  rintro e w' ⟨rfl, rfl⟩
  go_wp2
  go_ret2
  exact ⟨rfl, rfl⟩
theorem nb_next (po : Option Addr) (w : World) (h : NM po w) : Calls Try.prog 21 #[.pointer po] w fun e w' => e = .returned (.tuple #[.int .i64 0, .bool false]) ∧ w' = w := by
  have K := h w (Below.refl _ _)
  clear h
  go_enter Try.func21, Try.ntmps21
  go_wp2_with fail
  refine Calls.mono K ?_
  rintro e w' ⟨rfl, rfl⟩
  go_wp2
  go_ret2
  exact ⟨rfl, rfl⟩
theorem nb_len (po : Option Addr) (w : World) (h : NM po w) : Calls Try.prog 17 #[.pointer po] w fun e w' => e = .returned (.int .i64 0) ∧ w' = w := by
  have K := h w (Below.refl _ _)
  clear h
  go_enter Try.func17, Try.ntmps17
  go_wp2_with fail
  refine Calls.mono K ?_
  rintro e w' ⟨rfl, rfl⟩
  go_wp2
  go_ret
  exact ⟨rfl, rfl⟩
theorem nb_now (po : Option Addr) (w : World) (h : NM po w) : Calls Try.prog 15 #[.pointer po] w fun e w' => e = .returned (.int .i64 0) ∧ w' = w := by
  have K := h w (Below.refl _ _)
  clear h
  go_enter Try.func15, Try.ntmps15
  go_wp2_with fail
  refine Calls.mono K ?_
  rintro e w' ⟨rfl, rfl⟩
  go_wp2
  go_ret
  exact ⟨rfl, rfl⟩
theorem nb_drop (po : Option Addr) (id : Int) (w : World) (h : NM po w) : Calls Try.prog 18 #[.pointer po, .int .i64 id] w fun e w' => e = .returned (.bool false) ∧ w' = w := by
  have K := nb_time po id w h
  clear h
  go_enter Try.func18, Try.ntmps18
  go_wp2_with fail
  refine Calls.mono K ?_
  rintro e w' ⟨rfl, rfl⟩
  go_wp2
  go_ret
  exact ⟨rfl, rfl⟩
theorem nb_tick (po : Option Addr) (to : Int) (w : World) (h : NM po w) : Calls Try.prog 16 #[.pointer po, .int .i64 to] w fun e w' => e = .returned (.tuple #[.slice none 0 0, .int .i64 13]) ∧ Below w.heap.size w w' := by
  obtain ⟨W1, hW1⟩ : ∃ W, w.alloc (.cells #[.pointer po] 23) = W := ⟨_, rfl⟩
  have kb : Below w.heap.size w W1 := hW1 ▸ (Below.refl _ _).alloc (Nat.le_refl _) _
  have bx := (hW1 ▸ blk_new w #[.pointer po] 23 : Blk W1 w.heap.size 23 #[.pointer po]).cell 0 _ rfl
  have K := h W1 kb
  clear h
  go_enter Try.func16, Try.ntmps16
  go_wp2_with fail
  refine Calls.mono K ?_
  rintro e w' ⟨rfl, rfl⟩
  go_wp2
  go_ret2
  exact ⟨rfl, kb⟩
/-- One round of the law: all that nobody's wheel answers. -/
structure Nb (po : Option Addr) (w : World) (id at_ : Int) : Prop where
  h : NM po w
set_option maxRecDepth 100000 in
set_option maxHeartbeats 4000000 in
theorem wheelNobody_walk (id at_ : Int) (w : World) (hi : (Lit.int .i64 id).wf = true) (ha : (Lit.int .i64 at_).wf = true) :
    Calls Try.prog 8 #[.int .i64 id, .int .i64 at_] w fun e w' => e = .returned (.bool true) ∧ Below w.heap.size w w' := by
  have hb : ∀ W1, (Instr.build 57 #[]).run Try.prog W1 = .ok (.agg ((.bool false :: .int .i64 0 :: .map none :: sl0.map Sl.v).toArray)) W1 := by intro W1; kernel_rfl
  have hz : ((.bool false :: .int .i64 0 :: .map none :: sl0.map Sl.v).toArray : Array Value)[0]? = some (.bool false) := by simp
  generalize ((.bool false :: .int .i64 0 :: .map none :: sl0.map Sl.v).toArray : Array Value) = CS at *
  obtain ⟨W1, hW1⟩ : ∃ W, w.alloc (.cells CS 57) = W := ⟨_, rfl⟩
  have b1 := (hW1 ▸ blk_new w CS 57 : Blk W1 w.heap.size 57 CS)
  have k1 : Below w.heap.size w W1 := hW1 ▸ (Below.refl _ _).alloc (Nat.le_refl _) _
  obtain ⟨W2, hW2⟩ : ∃ W, W1.alloc (.cells #[.pointer none, .pointer (some ⟨w.heap.size, 0, none⟩)] 23) = W := ⟨_, rfl⟩
  have b2 := (hW2 ▸ blk_new W1 _ _ : Blk W2 W1.heap.size 23 #[.pointer none, .pointer (some ⟨w.heap.size, 0, none⟩)])
  have k2 : Below W1.heap.size W1 W2 := hW2 ▸ (Below.refl _ _).alloc (Nat.le_refl _) _
  have s1 : W1.heap.size = w.heap.size + 1 := by rw [← hW1]; simp
  have c1 := (b1.kept k2).cell 0 _ hz
  clear hi ha hz b1
  go_enter Try.func8, Try.ntmps8
  go_wp2_with (refine wpList_build _ rfl _ _ rfl _ (by first | rfl | kernel_rfl | simp [go_sem]) _ (hb _) ?_)
  have cl : Hid (∀ wr (j : Nat), Below W2.heap.size W2 wr → j < 2 → ∃ po, wr.cell? ⟨W1.heap.size, j, none⟩ = some (.pointer po) ∧ NM po wr) := fun wr j hb hj => by
    have b3 := b2.kept hb
    rcases (show j = 0 ∨ j = 1 by omega) with rfl | rfl
    · exact ⟨none, b3.cell 0 _ rfl, nm_nil wr⟩
    · exact ⟨_, b3.cell 1 _ rfl, nm_at _ wr ((hb.cell (World.block_lt_of_cell? W2 _ c1)).trans c1)⟩
  have bw : Hid (Below w.heap.size w W2) := k1.trans (k2.mono (by omega))
  clear b2 c1 k1 k2
  go_loopw [17] (fun i wr => ∃ j : Nat, j ≤ 2 ∧ i = .int .i64 j ∧ Hid (Below W2.heap.size W2 wr)) (fun i _ => 2 - (intOf i).toNat)
  case atStart => exact ⟨0, by omega, rfl, Below.refl _ _⟩
  case round =>
    obtain ⟨j, hj, rfl, hbl⟩ := hrel
    by_cases hlt : j < 2
    · have i1 : (↑j : Int) < 2 := by omega
      have i0 : (0 : Int) ≤ ↑j := by omega
      obtain ⟨po, cj, nm⟩ := cl.out wr j hbl.out hlt
      have cj' := cj
      rw [s1] at cj'
      have kt := hidW (nb_tick po at_ wr nm)
      have nm := hidW nm
      clear cl
      go_wp2_with fail
      refine Calls.mono kt.out ?_
      rintro e w1 ⟨rfl, q1⟩
      have nm1 := nm.out.below q1
      have k1 := hidW (nb_time po id w1 nm1)
      have k2 := hidW (nb_next po w1 nm1)
      have k3 := hidW (nb_set po id at_ w1 nm1)
      have k4 := hidW (nb_drop po id w1 nm1)
      have k5 := hidW (nb_len po w1 nm1)
      have k6 := hidW (nb_now po w1 nm1)
      have fb : Hid (Below W2.heap.size W2 w1) := hbl.out.trans (q1.mono hbl.out.size)
      clear nm1 nm kt q1 cj cj' hbl
      go_wp2_with (first
        | (go_at_call 20; refine Calls.mono k1.out ?_; rintro e w' ⟨rfl, rfl⟩)
        | (go_at_call 21; refine Calls.mono k2.out ?_; rintro e w' ⟨rfl, rfl⟩)
        | (go_at_call 14; refine Calls.mono k3.out ?_; rintro e w' ⟨rfl, rfl⟩)
        | (go_at_call 18; refine Calls.mono k4.out ?_; rintro e w' ⟨rfl, rfl⟩)
        | (go_at_call 17; refine Calls.mono k5.out ?_; rintro e w' ⟨rfl, rfl⟩)
        | (go_at_call 15; refine Calls.mono k6.out ?_; rintro e w' ⟨rfl, rfl⟩))
      exact ⟨⟨j + 1, by omega, int_eq (by omega), fb⟩, by simp [intOf] <;> omega⟩
    · have i1 : ¬ (↑j : Int) < 2 := by omega
      have ka := hidW (alive_any wr)
      clear cl
      go_wp2_with fail
      refine Calls.mono ka.out ?_
      rintro e w1 ⟨rfl, q1⟩
      go_wp2
      go_ret
      exact ⟨rfl, bw.out.trans ((hbl.out.trans (q1.mono hbl.out.size)).mono bw.out.size)⟩
end Go.Proofs.Ytfcpjenlckkloaa
