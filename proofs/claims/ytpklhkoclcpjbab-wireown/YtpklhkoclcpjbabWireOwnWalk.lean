/- The law WireOwn returns true. -/
import Derived.Test.YtpklhkoclcpjbabAlive
import Derived.Test.YtpklhkoclcpjbabAnys
import Derived.Test.YtpklhkoclcpjbabPuts
import Derived.Test.YtpklhkoclcpjbabRoom
namespace Go.Proofs.Ytpklhkoclcpjbab
open Go.RowKit
set_option linter.unusedVariables false

def pad (l : List Int) : List Int := l ++ List.replicate 8 0

theorem pad_zero (l : List Int) (j : Nat) (hj : j < 8) : (l ++ List.replicate 8 (0 : Int)).getD (l.length + j) 0 = 0 := by
  rw [List.getD_eq_getElem?_getD, List.getElem?_append_right (by omega), Nat.add_sub_cancel_left]
  cases h : (List.replicate 8 (0 : Int))[j]? with
  | none => rfl
  | some v => exact List.eq_of_mem_replicate (List.mem_of_getElem? h)

set_option maxHeartbeats 1000000 in
theorem wireOwn_walk (a : Option Addr) (c : Nat) (l : List Int) (x n : Int) (w : World) (hc : l.length ≤ c) (hm : c ≤ 140737488351232) (hnil : a = none → c = 0) (h : Row w a l)
    (hx : (Lit.int .i64 x).wf = true) (hn : (Lit.int .i64 n).wf = true) :
    Calls Try.prog 3 #[.slice a l.length c, .int .i64 x, .int .i64 n] w fun e w' => e = .returned (.bool true) ∧ Below w.heap.size w w' := by
  have hx' : -9223372036854775808 ≤ x ∧ x ≤ 9223372036854775807 := by simpa [Lit.wf, IntKind.min, IntKind.max, IntKind.signed, IntKind.bits] using hx
  have hll : l.length ≤ 140737488351232 := by omega
  clear hx hn
  go_enter Try.func3, Try.ntmps3
  go_wp2_with (at_make; refine wpList_make_zero _ rfl _ _ rfl _ _ _ (l.length + 8) rfl rfl (by omega) (by omega) ?_)
  intro w1 hg1 gr1
  have b1 : Below w.heap.size w w1 := (Below.refl _ _).grown gr1 (Nat.le_refl _) (fun k hk => by cases hk)
  have z1 := b1.size
  go_wp2_with (at_builtin; refine wpList_fill _ rfl _ _ rfl w.heap.size (l.length + 8) rfl hg1 a c l rfl (h.below b1) hnil (by omega) (by unfold maxLen; omega) ?_)
  intro w2 hg2 gr2
  have b2 : Below w.heap.size w w2 := b1.grown gr2 z1 (fun k hk => by cases hk; exact Nat.le_refl _)
  have z2 := b2.size
  replace hg2 : w2.heap[w.heap.size]? = some (.cells ((pad l).map (Value.int .u8)).toArray 5 (0, 0)) := by simpa [pad] using hg2
  have hZ : (pad l).length = l.length + 8 := by simp [pad]
  have oZ : Owns w2 w.heap.size (.slice (some ⟨w.heap.size, 0, none⟩) (pad l).length (pad l).length) (pad l) :=
    owns_room (Nat.le_refl _) (by rw [hZ]; unfold maxLen; omega) hg2
  have rZ : Row w2 (some ⟨w.heap.size, 0, none⟩) (pad l) := oZ.row (by rw [hZ]; omega) (h.bytes.app (M.Bytes.of (by decide)))
  have rc : Row w2 (some ⟨w.heap.size, 0, none⟩) l := by
    have := rZ.take l.length
    rwa [pad, List.take_left] at this
  have rb : Row w2 a l := h.below b2
  clear hg1 hg2 gr1 gr2 b1 z1 oZ h
  generalize hg : w.heap.size = g at *
  have HG : Hid (w.heap.size = g) := hg
  clear hg
  go_wp2_with fail
  refine (part_any _ _ l _ n _ rc (fun hh => by cases hh) hll (by omega) (by omega) hx').mono ?_
  rintro e w3 ⟨a3, c3, rfl, f3⟩
  have b3 := f3.below
  have z3 := b3.size
  have o3 := f3.owns
  have s3 := f3.row.small
  clear f3
  generalize partv l x n = p at *
  generalize liesB l.length x n = Bn at *
  go_wp2_with fail
  refine (put16_any _ _ l _ _ (rc.below b3) (fun hh => by cases hh) hll).mono ?_
  rintro e w4 ⟨a4, c4, rfl, f4⟩
  have b4 := f4.below
  have z4 := b4.size
  have o4 := f4.owns
  have s4 := f4.row.small
  clear f4
  generalize put16 l n = X at *
  go_wp2_with fail
  refine (put32_any _ _ l _ _ (rc.below (b3.trans (b4.mono z3))) (fun hh => by cases hh) hll (by omega)).mono ?_
  rintro e w5 ⟨a5, c5, rfl, f5⟩
  have b5 := f5.below
  have z5 := b5.size
  have o5 := f5.owns
  have s5 := f5.row.small
  clear f5
  generalize put32 l 7 = Y at *
  have L3 : Hid (∀ k o s, a3 = some ⟨k, o, s⟩ → k < w3.heap.size) := fun k o s e => (World.ownsRow.lt o3 k (by rw [e]; rfl)).2
  have L4 : Hid (∀ k o s, a4 = some ⟨k, o, s⟩ → k < w4.heap.size) := fun k o s e => (World.ownsRow.lt o4 k (by rw [e]; rfl)).2
  replace o3 := (o3.below b4).below b5
  replace o4 := o4.below b5
  have bb : Below w2.heap.size w2 w5 := (b3.trans (b4.mono z3)).trans (b5.mono (by omega))
  clear b3 b4 b5
  have hz5 : w2.heap.size ≤ w5.heap.size := by omega
  go_wp2_with fail
  go_loopw [37] (fun i wr => ∃ (k : Nat) (lr : List Int), k ≤ p.length ∧ i = .int .i64 k ∧ lr.length = p.length ∧ Owns wr w2.heap.size (.slice a3 p.length c3) lr ∧
      Owns wr w3.heap.size (.slice a4 X.length c4) X ∧ Owns wr w4.heap.size (.slice a5 Y.length c5) Y ∧ Below w2.heap.size w2 wr ∧ w5.heap.size ≤ wr.heap.size) (fun i _ => p.length - (intOf i).toNat)
  case atStart => exact ⟨0, p, Nat.zero_le _, rfl, rfl, o3, o4, o5, bb, Nat.le_refl _⟩
  case round =>
    obtain ⟨k, lr, hk, rfl, hlr, q3, q4, q5, qb, qz⟩ := hrel
    by_cases hlt : k < p.length
    · obtain ⟨g3, rfl, k1, k2, k3, k4, k5⟩ := q3.write hlr k hlt
      have k6 := L3.out _ _ _ rfl
      have ik : (k : Int) < (p.length : Int) := by omega
      have HR : Hid (lr.length = p.length) := hlr
      have KK : Hid _ := k5
      generalize lr.getD k 0 = zz at *
      clear hlr k5 q3
      go_wp2
      generalize bits .xor .u8 zz 255 = uu at *
      refine ⟨⟨k + 1, lr.set k uu, by omega, by go_num, by rw [List.length_set]; exact HR.out, KK.out uu, q4.other (by simpa using k6) _, q5.other (by simp; omega) _, qb.setCell k1 _, by rw [size_setCell]; exact qz⟩, by simp [intOf]; omega⟩
    · clear q3 o3 o4 o5 bb L3 hlr lr
      go_wp2_with fail
      clear hlt hk
      go_loopw [49] (fun i ws => ∃ (k : Nat) (lr : List Int), k ≤ X.length ∧ i = .int .i64 k ∧ lr.length = X.length ∧ Owns ws w3.heap.size (.slice a4 X.length c4) lr ∧
          Owns ws w4.heap.size (.slice a5 Y.length c5) Y ∧ Below w2.heap.size w2 ws ∧ w5.heap.size ≤ ws.heap.size) (fun i _ => X.length - (intOf i).toNat)
      case atStart => exact ⟨0, X, Nat.zero_le _, rfl, rfl, q4, q5, qb, qz⟩
      case round =>
        clear q4 q5 qb qz
        obtain ⟨k, lr, hk, rfl, hlr, q4, q5, qb, qz⟩ := hrel
        by_cases hlt : k < X.length
        · obtain ⟨g4, rfl, k1, k2, k3, k4, k5⟩ := q4.write hlr k hlt
          have k6 := L4.out _ _ _ rfl
          have ik : (k : Int) < (X.length : Int) := by omega
          have HR : Hid (lr.length = X.length) := hlr
          have KK : Hid _ := k5
          clear hlr k5 q4
          go_wp2
          refine ⟨⟨k + 1, lr.set k 1, by omega, by go_num, by rw [List.length_set]; exact HR.out, KK.out 1, q5.other (by simpa using k6) _, qb.setCell (by simp; omega) _, by rw [size_setCell]; exact qz⟩, by simp [intOf]; omega⟩
        · clear q4 L4
          go_wp2_with fail
          clear hlt hk
          go_loopw [58] (fun i wt => ∃ (k : Nat) (lr : List Int), k ≤ Y.length ∧ i = .int .i64 k ∧ lr.length = Y.length ∧ Owns wt w4.heap.size (.slice a5 Y.length c5) lr ∧
              Below w2.heap.size w2 wt ∧ w5.heap.size ≤ wt.heap.size) (fun i _ => Y.length - (intOf i).toNat)
          case atStart => exact ⟨0, Y, Nat.zero_le _, rfl, rfl, q5, qb, qz⟩
          case round =>
            clear q5 qb qz
            obtain ⟨k, lr, hk, rfl, hlr, q5, qb, qz⟩ := hrel
            by_cases hlt : k < Y.length
            · obtain ⟨g5, rfl, k1, k2, k3, k4, k5⟩ := q5.write hlr k hlt
              have ik : (k : Int) < (Y.length : Int) := by omega
              have HR : Hid (lr.length = Y.length) := hlr
              have KK : Hid _ := k5
              clear hlr k5 q5
              go_wp2
              refine ⟨⟨k + 1, lr.set k 2, by omega, by go_num, by rw [List.length_set]; exact HR.out, KK.out 2, qb.setCell (by simp; omega) _, by rw [size_setCell]; exact qz⟩, by simp [intOf]; omega⟩
            · clear q5
              replace rZ := rZ.below qb
              replace rc := rc.below qb
              replace rb := rb.below qb
              have bw := b2.trans (qb.mono z2)
              go_wp2_with fail
              refine (sum_any _ _ [l] _ (rowss_one _ 22 _ rfl _ _ l rc)).mono ?_
              rintro e w' ⟨rfl, rfl⟩
              replace rZ := rZ.alloc (.cells #[.slice (some ⟨g, 0, none⟩) l.length (l.length + 8)] 22)
              replace rc := rc.alloc (.cells #[.slice (some ⟨g, 0, none⟩) l.length (l.length + 8)] 22)
              replace rb := rb.alloc (.cells #[.slice (some ⟨g, 0, none⟩) l.length (l.length + 8)] 22)
              replace bw := bw.alloc (by omega) (.cells #[.slice (some ⟨g, 0, none⟩) l.length (l.length + 8)] 22)
              clear qb qz hlt hk hlr lr
              generalize wr.alloc (.cells #[.slice (some ⟨g, 0, none⟩) l.length (l.length + 8)] 22) = w6 at *
              have hcell : ∀ j, j < 8 → w6.cell? ⟨g, l.length + j, none⟩ = some (.int .u8 0) := by
                intro j hj
                rw [rZ.cell (l.length + j) (by omega), pad, pad_zero l j hj]
              have HC : Hid _ := hcell
              have HZ : Hid _ := hZ
              clear hcell hZ
              go_wp2_with fail
              go_loop [16] (fun i => ∃ j : Nat, j ≤ 8 ∧ i = .int .i64 ((l.length + j : Nat) : Int)) (fun i => l.length + 8 - (intOf i).toNat)
              case atStart => exact ⟨0, by omega, rfl⟩
              case round =>
                obtain ⟨j, hj, rfl⟩ := hrel
                by_cases hj8 : j < 8
                · have hcj := HC.out j hj8
                  have ij : ((l.length + j : Nat) : Int) < ((l.length + 8 : Nat) : Int) := by omega
                  go_wp2
                  exact ⟨⟨j + 1, by omega, int_eq (by omega)⟩, by simp [intOf]; omega⟩
                · have hj9 : j = 8 := by omega
                  subst hj9
                  go_wp2_with fail
                  refine (same_any _ _ _ _ l _ rc rb).mono ?_
                  rintro e w' ⟨rfl, rfl⟩
                  go_wp2_with (go_at_call 9; refine (alive_any _).mono ?_; rintro e w' ⟨rfl, hb⟩)
                  go_ret
                  rw [HG.out]
                  exact ⟨rfl, bw.trans (hb.mono (by have := bw.size; have := HG.out; omega))⟩
end Go.Proofs.Ytpklhkoclcpjbab
