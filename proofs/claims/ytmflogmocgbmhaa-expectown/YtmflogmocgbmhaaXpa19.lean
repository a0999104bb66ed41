/- Texts joined: XpJ -/
import Derived.Test.YtmflogmocgbmhaaXpa17
namespace Go.Proofs.Ytmflogmocgbmhaa
open Go.RowKit
set_option linter.unusedVariables false
set_option linter.unusedSimpArgs false
theorem cnt_at {x : Wy} {l : List Wt} {k : Nat} {q : Wt} (h : l[k]? = some q) : cntW x (l.take (k + 1)) = cntW x (l.take k) + (if q.m.eqB x then 1 else 0) := by
  unfold cntW
  rw [List.take_add_one, h, List.countP_append]
  simp
set_option maxRecDepth 100000 in
set_option maxHeartbeats 4000000 in
theorem count_mas (tb g : Nat) (s : Xt) (a : Option Addr) (c : Nat) (x : Wy) (w : World) (T : Blk w tb 61 (tabW s a c)) (O : OwnW w 0 a c s.L) (G : Blk w g 26 x.v) (hll : s.L.length ≤ 1000000) :
    Calls Try.prog 56 #[.pointer (some ⟨tb, 0, none⟩), .func (.func 57) #[] #[.pointer (some ⟨g, 0, none⟩)]] w fun e w' => e = .returned (.int .i64 (cntW x s.L : Int)) ∧ Below w.heap.size w w' := by
  obtain ⟨R, hR⟩ : ∃ R, (0 : Int) = R := ⟨_, rfl⟩
  have HR : Hid ((0 : Int) = R) := hR
  try rw [hR]
  clear hR
  have b := Below.refl w.heap.size w
  go_enter Try.func56, Try.ntmps56
  have c1 := T.cell 4 (.slice a s.L.length c) rfl
  go_wp2_with fail
  go_loopw [5, 13] (fun nv kv wr => ∃ k : Nat, k ≤ s.L.length ∧ nv = .int .i64 (cntW x (s.L.take k)) ∧ kv = .int .i64 k ∧ Blk wr tb 61 (tabW s a c) ∧ OwnW wr 0 a c s.L ∧ Blk wr g 26 x.v ∧ Below w.heap.size w wr) (fun _ kv _ => s.L.length - (intOf kv).toNat)
  case atStart => exact ⟨0, Nat.zero_le _, rfl, rfl, T, O, G, b⟩
  case round =>
    obtain ⟨k, hk, rfl, rfl, Tr, Or_, Gr_, br⟩ := hrel
    obtain ⟨Wr, rfl⟩ : ∃ W, W = wr := ⟨_, rfl⟩
    have Or := Or_
    have Gr := Gr_
    clear Or_ Gr_
    have in0 : (0 : Int) ≤ (k : Int) := by omega
    have hcl : cntW x (s.L.take k) ≤ 1000000 := by
      have h8 : cntW x (s.L.take k) ≤ (s.L.take k).length := List.countP_le_length
      have h9 := List.length_take_le k s.L
      omega
    by_cases hlt : k < s.L.length
    · have ik : (k : Int) < (s.L.length : Int) := by omega
      have ik' : decide ((k : Int) < (s.L.length : Int)) = true := by simpa using ik
      obtain ⟨q, hq⟩ : ∃ q, s.L[k]? = some q := ⟨_, List.getElem?_eq_getElem hlt⟩
      have HQ : Hid (s.L[k]? = some q) := hq
      obtain ⟨p2, off2, rfl, hcb⟩ := (Or.row fun _ _ => trivial).cells k q hq
      clear hq
      obtain ⟨Wm2, hWm2⟩ : ∃ W, Wr.alloc (.cells #[.int .i64 0, .int .i64 0, .int .i64 0, .int .u64 0, .int .u64 0, .int .i64 0, .int .u64 0, .int .u64 0, .int .i64 0, .int .i64 0, .int .i64 0, .int .i64 0, .int .i64 0, .int .u64 0, .int .u64 0, .int .i64 0, .int .u64 0, .int .u64 0, .int .i64 0, .int .i64 0, .int .i64 0, .int .i64 0] 28) = W := ⟨_, rfl⟩
      have bm2 := bel_al br hWm2
      have Tm2 := Tr.al hWm2
      have Om2 := Or.al hWm2
      have Gm2 := Gr.al hWm2
      have Am2 := blk_nw hWm2
      have gA : w.heap.size ≤ Wr.heap.size := br.size
      have nTA : tb ≠ Wr.heap.size := by have := Tr.lt; omega
      have nAT : Wr.heap.size ≠ tb := fun e => nTA e.symm
      have nOA : ∀ y : Addr, some ⟨p2, off2, none⟩ = some y → y.block ≠ Wr.heap.size := fun y hy => by have := Or.lt_size y hy; omega
      have nGA : g ≠ Wr.heap.size := by have := Gr.lt; omega
      have nAG : Wr.heap.size ≠ g := fun e => nGA e.symm
      obtain ⟨Wm3, hWm3⟩ : ∃ W, Wm2.setRow Wr.heap.size q.v = W := ⟨_, rfl⟩
      have Am3 : Blk Wm3 Wr.heap.size 28 q.v := hWm3 ▸ Am2.set q.v
      have Tm3 := hWm3 ▸ Tm2.other nTA q.v
      have Om3 := hWm3 ▸ Om2.other nOA q.v
      have Gm3 := hWm3 ▸ Gm2.other nGA q.v
      have bm3 := hWm3 ▸ below_setRow bm2 gA q.v
      go_wp2_with (first | (refine wpList_load_at_w (by rfl) _ _ rfl p2 (off2 + k * 22) (by rfl) _ hcb Try.underlying28 (by kernel_rfl) ?_) | (refine wpList_store_row rfl _ _ _ rfl Wr.heap.size q.v (by rfl) (by rfl) _ _ Am2 (by kernel_rfl) (by rfl) (by kernel_rfl) ?_; rw [hWm3]) | (refine wpList_load_blk_w (by rfl) _ _ rfl Wr.heap.size (by rfl) _ Am3 Try.underlying28 (by kernel_rfl) ?_))
      refine Calls.mono (clos_mas q x g _ Gm3) ?_
      rintro e Wm4 ⟨rfl, bb⟩
      have Tm4 := Tm3.kept bb
      have Om4 := Om3.kept bb
      have Gm4 := Gm3.kept bb
      have Am4 := Am3.kept bb
      have bm4 := bel_tr bm3 bb
      clear bb
      clear Tm3 Om3 Gm3 Am3 bm3
      cases hq5 : (q.m.eqB x) with
      | false =>
        go_wp2_with fail
        exact ⟨⟨k + 1, by omega, by rw [cnt_at HQ.out, hq5]; first | rfl | go_num, by go_num, Tm4, Om4, Gm4, bm4⟩, by simp [intOf]; omega⟩

      | true =>
        go_wp2_with fail
        exact ⟨⟨k + 1, by omega, by rw [cnt_at HQ.out, hq5]; first | rfl | go_num, by go_num, Tm4, Om4, Gm4, bm4⟩, by simp [intOf]; omega⟩


    · have ik : ¬ (k : Int) < (s.L.length : Int) := by omega
      have ik' : decide ((k : Int) < (s.L.length : Int)) = false := by simpa using ik
      have hkk : k = s.L.length := by omega
      go_wp2_with fail
      go_ret
      exact ⟨by first | rfl | rw [hkk, List.take_length], br⟩
end Go.Proofs.Ytmflogmocgbmhaa
