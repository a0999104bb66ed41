/- Texts joined: TopWiresWalk -/
import Derived.Test.YtbghilihccaaaaaTwz51
namespace Go.Proofs.Ytbghilihccaaaaa
abbrev twz52o4 : Oper := { dst := some 101, op := Op.load 42 (.tmp 100), type := 42, pos := "top06.go:59", after := #[{ on := 10, ground := Ground.data }], guard := none }
abbrev twz52o5 : Oper := { dst := some 97, op := Op.load 42 (.tmp 96), type := 42, pos := "top06.go:59", after := #[{ on := 6, ground := Ground.data }], guard := none }
end Go.Proofs.Ytbghilihccaaaaa
namespace Go.Proofs.Ytbghilihccaaaaa
open Go.RowKit
set_option linter.unusedVariables false
set_option linter.unusedSimpArgs false
abbrev mkW (six : Bool) (data : List Int) (b off dc : Nat) (x : Nat × Nat × Bool) : PkIn := ⟨pkW six data [] x, none, 0, some ⟨b, off + x.1, none⟩, dc - x.1⟩
def XW (six : Bool) : List Int := if six = true then [44] else []
theorem cut16_le (N : Nat) : ∀ (m k : Nat), N ≤ k + 16 * m → 0 < m → ∀ x ∈ cutL N (List.replicate m 1) k, x.2.1 ≤ 16
  | 0, k, _, h, _, _ => by omega
  | m + 1, k, hN, _, x, hx => by
    by_cases h : k + 16 < N
    · rw [cut16_go N k m h] at hx
      rcases List.mem_cons.1 hx with rfl | hx
      · exact Nat.le_refl _
      · exact cut16_le N m (k + 16) (by omega) (by omega) x hx
    · rw [cut16_stop N k m (by omega)] at hx
      obtain rfl := List.mem_singleton.1 hx
      simp only
      omega
theorem wok_piece {six : Bool} {data : List Int} {M : List (Nat × Nat × Bool)} {x : Nat × Nat × Bool} (hl : data.length ≤ 2000) (h0 : 16 < data.length) (hp : M.Perm (cutL data.length (List.replicate 200 1) 0)) (hx : x ∈ M) : WOk (pkW six data [] x) := by
  have hx' := hp.mem_iff.1 hx
  obtain ⟨_, h2, h3, h4, h5, h6⟩ := (cut_ok data.length (List.replicate 200 1) 0 (by omega) rfl).each x hx'
  have h7 := cut16_le data.length 200 0 (by omega) (by omega) x hx'
  have hln := pkW_len (six := six) (X := []) h4
  refine ⟨?_, rfl, rfl, (show (0 : Int) ≤ 7 ∧ (7 : Int) ≤ 65535 by decide), rfl, by simp, by simp only; omega, ?_, ?_, ?_⟩
  · cases six
    · exact .inl ⟨rfl, rfl, rfl, rfl⟩
    · exact .inr ⟨rfl, rfl, rfl, rfl⟩
  · rw [hln]; simp only; omega
  · cases hm : x.2.2 with
    | true => exact .inl hm
    | false =>
      right
      have := h6 hm
      simp only
      omega
  · intro hm
    have := h5 hm
    rw [hln]
    omega
set_option maxRecDepth 100000 in
set_option maxHeartbeats 8000000 in
theorem topWires_walk (a0 : Option Addr) (dc : Nat) (data : List Int) (six : Bool) (a1 : Option Addr) (c1 : Nat) (ord : List Int) (w : World) (lc0 : data.length ≤ dc) (cm0 : dc ≤ 140737488351232) (nl0 : a0 = none → dc = 0) (w0 : Row w a0 data) (lc1 : ord.length ≤ c1) (cm1 : c1 ≤ 140737488351232) (nl1 : a1 = none → c1 = 0) (w1 : Row w a1 ord) :
    Calls Try.prog 11 #[.slice a0 data.length dc, .bool six, .slice a1 ord.length c1] w fun e w' => e = .returned (.bool true) ∧ Below w.heap.size w w' := by
  obtain ⟨N, hN⟩ : ∃ n, data.length = n := ⟨_, rfl⟩
  have HN : Hid (data.length = N) := hN
  have hsm := w0.small
  rw [hN] at lc0 hsm ⊢
  clear hN
  have KN : Hid _ := tabB_new 4 65536 10 w ⟨by decide, by decide, by decide, by decide, by decide, by decide⟩
  have hos : ord.length ≤ 140737488355328 := w1.small
  go_enter Try.func11, Try.ntmps11
  go_wp2_with fail
  refine Calls.mono KN.out ?_
  rintro e W1 ⟨tb, mb, rfl, T1⟩
  clear KN
  have KJ : Hid _ := joins_any W1
  go_wp2_with fail
  refine Calls.mono KJ.out ?_
  rintro e W2 ⟨rfl, k2⟩
  have T2 := T1.below k2
  clear KJ T1 k2
  by_cases z1 : N < 9
  · have z1' : (↑N : Int) < 9 := by omega
    have HT2 : Hid _ := T2
    clear T2
    go_wp2
    go_ret
    exact ⟨rfl, HT2.out.bel⟩
  by_cases z2 : N > 2000
  · have z1' : ¬ (↑N : Int) < 9 := by omega
    have z2' : (↑N : Int) > 2000 := by omega
    have HT2 : Hid _ := T2
    clear T2
    go_wp2
    go_ret
    exact ⟨rfl, HT2.out.bel⟩
  have z1' : ¬ (↑N : Int) < 9 := by omega
  have z2' : ¬ (↑N : Int) > 2000 := by omega
  obtain ⟨b, off, rfl, hdc⟩ := w0.cells (by rw [HN.out]; omega)
  clear hdc
  have R0 : Hid (Row w (some ⟨b, off, none⟩) data) := w0
  have HO : Hid (Row W2 a1 ord) := w1.below T2.bel
  have HT2 : Hid (TabB w.heap.size w W2 tb mb (fs0 4 65536 10)) := T2
  clear w0 w1 T2
  go_wp2
  go_loopw [9, 10] (fun l at_ wr => ∃ (k : Nat) (D : List (Nat × Nat × Bool)) (a : Option Addr) (c : Nat), at_ = .int .i64 k ∧ l = .slice a D.length c ∧ k = 16 * D.length ∧ D.length ≤ 126 ∧ k < N + 16 ∧ Hid (cutL N (List.replicate 200 1) 0 = D ++ (if k < N then cutL N (List.replicate (200 - D.length) 1) k else [])) ∧ Hid (ownP wr a c (D.map (mkW six data b off dc))) ∧ Hid (∀ x, a = some x → W2.heap.size ≤ x.block) ∧ Hid (Below W2.heap.size W2 wr)) (fun _ i _ => N + 16 - (intOf i).toNat)
  case atStart => exact ⟨0, [], none, 0, rfl, rfl, rfl, by simp, by omega, by show _ = _; rw [if_pos (by omega)]; rfl, ownP_nil _, fun x hx => (by cases hx), Below.refl _ _⟩
  case round =>
    obtain ⟨k, D, a, c, rfl, rfl, hkD, hD, hkN, hcut, hown, hnew, hbl⟩ := hrel
    by_cases hlt : k < N
    · have i1 : (↑k : Int) < ↑N := by omega
      have i0 : (0 : Int) ≤ ↑k := by omega
      obtain ⟨r, hr⟩ : ∃ r, 200 - D.length = r + 1 := ⟨199 - D.length, by omega⟩
      have hc1 := hcut.out
      rw [if_pos hlt, hr] at hc1
      have HKD : Hid (k = 16 * D.length) := hkD
      by_cases hst : N ≤ k + 16
      · obtain ⟨NN, hNN⟩ : ∃ n, N - k = n := ⟨_, rfl⟩
        obtain ⟨E, hE⟩ : ∃ n, k + NN = n := ⟨_, rfl⟩
        have hEN : (↑E : Int) = ↑N := by omega
        have hmin : min ((↑k : Int) + 16) ↑N = ↑N := by omega
        have i2 : decide ((↑k : Int) + 16 < ↑N) = false := by simp; omega
        have i2' : (↑N : Int) ≤ ↑k + 16 := by omega
        have q1 : (↑N : Int) ≤ ↑dc := by omega
        have q4 : ¬ dc = k := by omega
        have hEk : N - k = NN := hNN
        have hcut2 : Hid (cutL N (List.replicate 200 1) 0 = (D ++ [(k, NN, false)]) ++ (if k + 16 < N then cutL N (List.replicate (200 - (D ++ [(k, NN, false)]).length) 1) (k + 16) else [])) := by
          show _ = _
          rw [hc1, cut16_stop N k r hst, hNN, if_neg (by omega), List.append_nil]
        have HNN : Hid (N - k = NN) := hNN
        have hN1 : NN + k ≤ N := by omega
        have hN2 : N ≤ NN + k := by omega
        clear hcut hc1 hkD hNN hE hEN
        have hlen9 : (pkW six data [] (k, NN, false)).dat.length = NN := by rw [pkW_len (by rw [HN.out]; simp only; omega)]
        have KP : Hid _ := packet_any six (some ⟨b, off + k, none⟩) NN (dc - k) wr
        go_wp2_with fail
        all_goals (
          try first | rw [hEk] | rw [show ((↑k : Int) + 16).toNat - k = NN by omega]
          refine Calls.mono KP.out ?_
          rintro e W3 ⟨rfl, k3⟩
          clear KP
          obtain ⟨Wa, hWa⟩ : ∃ W, W3.alloc (.cells #[.int .i64 0, .int .i64 0, .int .u64 0, .int .u64 0, .int .i64 0, .int .u64 0, .int .u64 0, .int .i64 0, .int .i64 0, .bool false, .int .u32 0, .int .i64 0, .bool false, .slice none 0 0, .slice none 0 0] 42) = W := ⟨_, rfl⟩
          have Ba := blk_nw hWa
          have ka := bel_nw hWa
          obtain ⟨Wb, hWb⟩ : ∃ W, Wa.setRow W3.heap.size #[.int .i64 (wF six), .int .i64 (wF six), .int .u64 (wSH six), .int .u64 (wSL six), .int .i64 (wF six), .int .u64 (wDH six), .int .u64 (wDL six), .int .i64 (wP six), .int .i64 9, .bool false, .int .u32 0, .int .i64 0, .bool false, .slice none 0 0, .slice (some ⟨b, off + k, none⟩) NN (dc - k)] = W := ⟨_, rfl⟩
          have B5 : Blk Wb W3.heap.size 42 #[.int .i64 (wF six), .int .i64 (wF six), .int .u64 (wSH six), .int .u64 (wSL six), .int .i64 (wF six), .int .u64 (wDH six), .int .u64 (wDL six), .int .i64 (wP six), .int .i64 9, .bool false, .int .u32 0, .int .i64 0, .bool false, .slice none 0 0, .slice (some ⟨b, off + k, none⟩) NN (dc - k)] := by rw [← hWb]; exact Ba.set _
          have k5 : Below W3.heap.size W3 Wb := by rw [← hWb]; exact below_setRow ka (Nat.le_refl _) _
          have HWb : Hid _ := hWb
          have f9 := B5.frozen 9
          have y9 := B5.cell 9 (.bool false) rfl
          have B6 := B5.put 9 (.bool true)
          have k6 := k5.setCell (p := ⟨W3.heap.size, 9, none⟩) (Nat.le_refl _) (.bool true)
          have f10 := B6.frozen 10
          have y10 := B6.cell 10 (.int .u32 0) rfl
          have B7 := B6.put 10 (.int .u32 7)
          have k7 := k6.setCell (p := ⟨W3.heap.size, 10, none⟩) (Nat.le_refl _) (.int .u32 7)
          have f11 := B7.frozen 11
          have y11 := B7.cell 11 (.int .i64 0) rfl
          have B8 := B7.put 11 (.int .i64 ↑k)
          have k8 := k7.setCell (p := ⟨W3.heap.size, 11, none⟩) (Nat.le_refl _) (.int .i64 ↑k)
          have f12 := B8.frozen 12
          have y12 := B8.cell 12 (.bool false) rfl
          have B9 := B8.put 12 (.bool false)
          have k9 := k8.setCell (p := ⟨W3.heap.size, 12, none⟩) (Nat.le_refl _) (.bool false)
          obtain ⟨V, hV⟩ : ∃ V, (((Wb.setCell ⟨W3.heap.size, 9, none⟩ (.bool true)).setCell ⟨W3.heap.size, 10, none⟩ (.int .u32 7)).setCell ⟨W3.heap.size, 11, none⟩ (.int .i64 ↑k)).setCell ⟨W3.heap.size, 12, none⟩ (.bool false) = V := ⟨_, rfl⟩
          rw [hV] at B9 k9
          have Q3 : Blk V W3.heap.size 42 #[.int .i64 (wF six), .int .i64 (wF six), .int .u64 (wSH six), .int .u64 (wSL six), .int .i64 (wF six), .int .u64 (wDH six), .int .u64 (wDL six), .int .i64 (wP six), .int .i64 9, .bool true, .int .u32 7, .int .i64 ↑k, .bool false, .slice none 0 0, .slice (some ⟨b, off + k, none⟩) NN (dc - k)] := B9
          have k3V : Below wr.heap.size wr V := bel_tr k3 k9
          obtain ⟨W5, hW5⟩ : ∃ W, V.alloc (.cells #[.int .i64 (wF six), .int .i64 (wF six), .int .u64 (wSH six), .int .u64 (wSL six), .int .i64 (wF six), .int .u64 (wDH six), .int .u64 (wDL six), .int .i64 (wP six), .int .i64 9, .bool true, .int .u32 7, .int .i64 ↑k, .bool false, .slice none 0 0, .slice (some ⟨b, off + k, none⟩) NN (dc - k)] 42) = W := ⟨_, rfl⟩
          have kW5 := bel_nw hW5
          have BW5 := blk_nw hW5
          have S5 : CellsAt W5 V.heap.size 0 (mkW six data b off dc (k, NN, false)).v := ⟨BW5.lt, fun jj v hv => BW5.cell (0 + jj) v (by
            rw [Nat.zero_add]
            have e : (mkW six data b off dc (k, NN, false)).v = #[.int .i64 (wF six), .int .i64 (wF six), .int .u64 (wSH six), .int .u64 (wSL six), .int .i64 (wF six), .int .u64 (wDH six), .int .u64 (wDL six), .int .i64 (wP six), .int .i64 9, .bool true, .int .u32 7, .int .i64 ↑k, .bool false, .slice none 0 0, .slice (some ⟨b, off + k, none⟩) NN (dc - k)] := by
              simp only [PkIn.v, pkV, hlen9, List.length_nil]
            rw [e] at hv
            exact hv)⟩
          have o5 : ownP W5 a c (D.map (mkW six data b off dc)) := (hown.out.below k3V).below kW5
          obtain ⟨a2, c2, W6, hrun, hown6, hbut6, hnew6⟩ := run_appP W5 54 a c (D.map (mkW six data b off dc)) V.heap.size (mkW six data b off dc (k, NN, false)) o5 S5 (by simp; omega)
          rw [List.length_map] at hrun
          have kW6 : Below W2.heap.size W2 W6 := (hbl.out.trans ((bel_tr k3V kW5).mono hbl.out.size)).trans (hbut6.to_below (Nat.le_trans hbl.out.size (bel_tr k3V kW5).size) (fun kk hk hF => by
            obtain ⟨x, hx, e⟩ := hF
            have := hnew.out x hx
            omega))
          have n6 : ∀ x, a2 = some x → W2.heap.size ≤ x.block := fun x hx => by
            rcases hnew6 x hx with ⟨y, hy, e⟩ | h
            · have := hnew.out y hy
              omega
            · have := hbl.out.size
              have := (bel_tr k3V kW5).size
              omega
          have HV : Hid _ := hV
          clear hWb hV B6 B7 B8 B9 k6 k7 k8 k5 ka
          go_wp2_with (first
            | (refine wpList_store_row rfl _ _ _ rfl W3.heap.size #[.int .i64 (wF six), .int .i64 (wF six), .int .u64 (wSH six), .int .u64 (wSL six), .int .i64 (wF six), .int .u64 (wDH six), .int .u64 (wDL six), .int .i64 (wP six), .int .i64 9, .bool false, .int .u32 0, .int .i64 0, .bool false, .slice none 0 0, .slice (some ⟨b, off + k, none⟩) NN (dc - k)] (by rfl) (by rfl) _ _ Ba (by kernel_rfl) (by rfl) (by kernel_rfl) ?_; rw [HWb.out])
            | (rw [HV.out]; refine wpList_load_row rfl _ _ rfl W3.heap.size (by rfl) _ _ _ _ Q3 Try.underlying42 rfl (by kernel_rfl) ?_)
            | (refine wpList_load_row rfl _ _ rfl W3.heap.size (by rfl) _ _ _ _ Q3 Try.underlying42 rfl (by kernel_rfl) ?_)
            | (refine wpList_runP _ rfl _ _ rfl _ _ _ _ (by rfl) (by rfl) hrun ?_))
          have o6' : ownP W6 a2 c2 ((D ++ [(k, NN, false)]).map (mkW six data b off dc)) := by simpa using hown6
          exact ⟨⟨k + 16, D ++ [(k, NN, false)], a2, c2, int_eq (by omega), by simp, by have := HKD.out; simp; omega, by have := HKD.out; simp; omega, by omega, hcut2, o6', n6, kW6⟩, by simp [intOf] <;> omega⟩)
      · obtain ⟨NN, hNN⟩ : ∃ n, 16 = n := ⟨_, rfl⟩
        have hN1 : NN ≤ 16 := by omega
        have hN2 : 16 ≤ NN := by omega
        have hmin : min ((↑k : Int) + 16) ↑N = ↑k + 16 := by omega
        have i2 : decide ((↑k : Int) + 16 < ↑N) = true := by simp; omega
        have q1 : (↑k : Int) + 16 ≤ ↑dc := by omega
        have q4 : ¬ dc = k := by omega
        have hEk : ((↑k : Int) + 16).toNat - k = NN := by omega
        have hcut2 : Hid (cutL N (List.replicate 200 1) 0 = (D ++ [(k, NN, true)]) ++ (if k + 16 < N then cutL N (List.replicate (200 - (D ++ [(k, NN, true)]).length) 1) (k + 16) else [])) := by
          show _ = _
          rw [hc1, cut16_go N k r (by omega), if_pos (by omega), ← hNN, List.length_append, show 200 - (D.length + [(k, 16, true)].length) = r by simp; omega]
          simp
        clear hcut hc1 hkD hNN
        have hlen9 : (pkW six data [] (k, NN, true)).dat.length = NN := by rw [pkW_len (by rw [HN.out]; simp only; omega)]
        have KP : Hid _ := packet_any six (some ⟨b, off + k, none⟩) NN (dc - k) wr
        go_wp2_with fail
        all_goals (
          try first | rw [hEk] | rw [show ((↑k : Int) + 16).toNat - k = NN by omega]
          refine Calls.mono KP.out ?_
          rintro e W3 ⟨rfl, k3⟩
          clear KP
          obtain ⟨Wa, hWa⟩ : ∃ W, W3.alloc (.cells #[.int .i64 0, .int .i64 0, .int .u64 0, .int .u64 0, .int .i64 0, .int .u64 0, .int .u64 0, .int .i64 0, .int .i64 0, .bool false, .int .u32 0, .int .i64 0, .bool false, .slice none 0 0, .slice none 0 0] 42) = W := ⟨_, rfl⟩
          have Ba := blk_nw hWa
          have ka := bel_nw hWa
          obtain ⟨Wb, hWb⟩ : ∃ W, Wa.setRow W3.heap.size #[.int .i64 (wF six), .int .i64 (wF six), .int .u64 (wSH six), .int .u64 (wSL six), .int .i64 (wF six), .int .u64 (wDH six), .int .u64 (wDL six), .int .i64 (wP six), .int .i64 9, .bool false, .int .u32 0, .int .i64 0, .bool false, .slice none 0 0, .slice (some ⟨b, off + k, none⟩) NN (dc - k)] = W := ⟨_, rfl⟩
          have B5 : Blk Wb W3.heap.size 42 #[.int .i64 (wF six), .int .i64 (wF six), .int .u64 (wSH six), .int .u64 (wSL six), .int .i64 (wF six), .int .u64 (wDH six), .int .u64 (wDL six), .int .i64 (wP six), .int .i64 9, .bool false, .int .u32 0, .int .i64 0, .bool false, .slice none 0 0, .slice (some ⟨b, off + k, none⟩) NN (dc - k)] := by rw [← hWb]; exact Ba.set _
          have k5 : Below W3.heap.size W3 Wb := by rw [← hWb]; exact below_setRow ka (Nat.le_refl _) _
          have HWb : Hid _ := hWb
          have f9 := B5.frozen 9
          have y9 := B5.cell 9 (.bool false) rfl
          have B6 := B5.put 9 (.bool true)
          have k6 := k5.setCell (p := ⟨W3.heap.size, 9, none⟩) (Nat.le_refl _) (.bool true)
          have f10 := B6.frozen 10
          have y10 := B6.cell 10 (.int .u32 0) rfl
          have B7 := B6.put 10 (.int .u32 7)
          have k7 := k6.setCell (p := ⟨W3.heap.size, 10, none⟩) (Nat.le_refl _) (.int .u32 7)
          have f11 := B7.frozen 11
          have y11 := B7.cell 11 (.int .i64 0) rfl
          have B8 := B7.put 11 (.int .i64 ↑k)
          have k8 := k7.setCell (p := ⟨W3.heap.size, 11, none⟩) (Nat.le_refl _) (.int .i64 ↑k)
          have f12 := B8.frozen 12
          have y12 := B8.cell 12 (.bool false) rfl
          have B9 := B8.put 12 (.bool true)
          have k9 := k8.setCell (p := ⟨W3.heap.size, 12, none⟩) (Nat.le_refl _) (.bool true)
          obtain ⟨V, hV⟩ : ∃ V, (((Wb.setCell ⟨W3.heap.size, 9, none⟩ (.bool true)).setCell ⟨W3.heap.size, 10, none⟩ (.int .u32 7)).setCell ⟨W3.heap.size, 11, none⟩ (.int .i64 ↑k)).setCell ⟨W3.heap.size, 12, none⟩ (.bool true) = V := ⟨_, rfl⟩
          rw [hV] at B9 k9
          have Q3 : Blk V W3.heap.size 42 #[.int .i64 (wF six), .int .i64 (wF six), .int .u64 (wSH six), .int .u64 (wSL six), .int .i64 (wF six), .int .u64 (wDH six), .int .u64 (wDL six), .int .i64 (wP six), .int .i64 9, .bool true, .int .u32 7, .int .i64 ↑k, .bool true, .slice none 0 0, .slice (some ⟨b, off + k, none⟩) NN (dc - k)] := B9
          have k3V : Below wr.heap.size wr V := bel_tr k3 k9
          obtain ⟨W5, hW5⟩ : ∃ W, V.alloc (.cells #[.int .i64 (wF six), .int .i64 (wF six), .int .u64 (wSH six), .int .u64 (wSL six), .int .i64 (wF six), .int .u64 (wDH six), .int .u64 (wDL six), .int .i64 (wP six), .int .i64 9, .bool true, .int .u32 7, .int .i64 ↑k, .bool true, .slice none 0 0, .slice (some ⟨b, off + k, none⟩) NN (dc - k)] 42) = W := ⟨_, rfl⟩
          have kW5 := bel_nw hW5
          have BW5 := blk_nw hW5
          have S5 : CellsAt W5 V.heap.size 0 (mkW six data b off dc (k, NN, true)).v := ⟨BW5.lt, fun jj v hv => BW5.cell (0 + jj) v (by
            rw [Nat.zero_add]
            have e : (mkW six data b off dc (k, NN, true)).v = #[.int .i64 (wF six), .int .i64 (wF six), .int .u64 (wSH six), .int .u64 (wSL six), .int .i64 (wF six), .int .u64 (wDH six), .int .u64 (wDL six), .int .i64 (wP six), .int .i64 9, .bool true, .int .u32 7, .int .i64 ↑k, .bool true, .slice none 0 0, .slice (some ⟨b, off + k, none⟩) NN (dc - k)] := by
              simp only [PkIn.v, pkV, hlen9, List.length_nil]
            rw [e] at hv
            exact hv)⟩
          have o5 : ownP W5 a c (D.map (mkW six data b off dc)) := (hown.out.below k3V).below kW5
          obtain ⟨a2, c2, W6, hrun, hown6, hbut6, hnew6⟩ := run_appP W5 54 a c (D.map (mkW six data b off dc)) V.heap.size (mkW six data b off dc (k, NN, true)) o5 S5 (by simp; omega)
          rw [List.length_map] at hrun
          have kW6 : Below W2.heap.size W2 W6 := (hbl.out.trans ((bel_tr k3V kW5).mono hbl.out.size)).trans (hbut6.to_below (Nat.le_trans hbl.out.size (bel_tr k3V kW5).size) (fun kk hk hF => by
            obtain ⟨x, hx, e⟩ := hF
            have := hnew.out x hx
            omega))
          have n6 : ∀ x, a2 = some x → W2.heap.size ≤ x.block := fun x hx => by
            rcases hnew6 x hx with ⟨y, hy, e⟩ | h
            · have := hnew.out y hy
              omega
            · have := hbl.out.size
              have := (bel_tr k3V kW5).size
              omega
          have HV : Hid _ := hV
          clear hWb hV B6 B7 B8 B9 k6 k7 k8 k5 ka
          go_wp2_with (first
            | (refine wpList_store_row rfl _ _ _ rfl W3.heap.size #[.int .i64 (wF six), .int .i64 (wF six), .int .u64 (wSH six), .int .u64 (wSL six), .int .i64 (wF six), .int .u64 (wDH six), .int .u64 (wDL six), .int .i64 (wP six), .int .i64 9, .bool false, .int .u32 0, .int .i64 0, .bool false, .slice none 0 0, .slice (some ⟨b, off + k, none⟩) NN (dc - k)] (by rfl) (by rfl) _ _ Ba (by kernel_rfl) (by rfl) (by kernel_rfl) ?_; rw [HWb.out])
            | (rw [HV.out]; refine wpList_load_row rfl _ _ rfl W3.heap.size (by rfl) _ _ _ _ Q3 Try.underlying42 rfl (by kernel_rfl) ?_)
            | (refine wpList_load_row rfl _ _ rfl W3.heap.size (by rfl) _ _ _ _ Q3 Try.underlying42 rfl (by kernel_rfl) ?_)
            | (refine wpList_runP _ rfl _ _ rfl _ _ _ _ (by rfl) (by rfl) hrun ?_))
          have o6' : ownP W6 a2 c2 ((D ++ [(k, NN, true)]).map (mkW six data b off dc)) := by simpa using hown6
          exact ⟨⟨k + 16, D ++ [(k, NN, true)], a2, c2, int_eq (by omega), by simp, by have := HKD.out; simp; omega, by have := HKD.out; simp; omega, by omega, hcut2, o6', n6, kW6⟩, by simp [intOf] <;> omega⟩)
    · have i1 : ¬ (↑k : Int) < ↑N := by omega
      have hM0 : Hid (D.Perm (cutL N (List.replicate 200 1) 0)) := by
        have := hcut.out
        rw [if_neg hlt, List.append_nil] at this
        rw [this]
        exact List.Perm.refl _
      obtain ⟨n2, hn2⟩ : ∃ n, D.length = n := ⟨_, rfl⟩
      have hlen0 : Hid (D.length = n2) := hn2
      have hpos : 0 < n2 := by omega
      have hn2b : n2 ≤ 126 := by omega
      have hbig : Hid (2 ≤ n2 → 16 < N) := fun h => by omega
      rw [hn2]
      clear hcut hn2 hkD hD
      obtain ⟨q0, hq0⟩ : ∃ q, D[0]? = some q := ⟨_, List.getElem?_eq_getElem (by rw [hlen0.out]; exact hpos)⟩
      obtain ⟨g2, rfl, h99⟩ := hown.out.at_ (i := 0) (q := mkW six data b off dc q0) (by rw [List.getElem?_map, hq0]; rfl)
      have hg2 : W2.heap.size ≤ g2 := hnew.out _ rfl
      obtain ⟨c2, rfl⟩ : ∃ c2, c2 = c := ⟨_, rfl⟩
      obtain ⟨VV, hVV⟩ : ∃ V, wr = V := ⟨_, rfl⟩
      clear hVV VV h99 hq0 hnew
      go_wp2
      go_loopw [76] (fun i w2 => ∃ (jj : Nat) (M : List (Nat × Nat × Bool)), jj ≤ ord.length ∧ i = .int .i64 jj ∧ Hid (M.Perm (cutL N (List.replicate 200 1) 0)) ∧ Hid (M.length = n2) ∧ Hid (ownP w2 (some ⟨g2, 0, none⟩) c2 (M.map (mkW six data b off dc))) ∧ Hid (Below W2.heap.size W2 w2)) (fun i _ => ord.length - (intOf i).toNat)
      case atStart => exact ⟨0, D, by omega, rfl, hM0, hlen0, hown, hbl⟩
      case round =>
        obtain ⟨jj, M, hjj, rfl, hperm, hMl, how, hbw⟩ := hrel
        clear hM0 hlen0 hown hbl
        by_cases hl2 : jj < ord.length
        · have i5 : (↑jj : Int) < ↑ord.length := by omega
          have Hl2 : Hid (jj < ord.length) := hl2
          have i6 : (0 : Int) ≤ ↑jj := by omega
          obtain ⟨ob, oo, rfl, hoc⟩ := (HO.out.below (hbw.out.mono (Nat.le_refl _))).cells (by omega)
          have oj := hoc jj hl2
          clear hoc
          obtain ⟨y, hy⟩ : ∃ y, ord.getD jj 0 = y := ⟨_, rfl⟩
          have hy01 : 0 ≤ y ∧ y ≤ 255 := by rw [← hy]; exact HO.out.bytes.get jj
          have hy0 := hy01.1
          have hy1 := hy01.2
          rw [hy] at oj
          clear hy hy01
          have hp2 : (0 : Int) < ↑n2 := by omega
          obtain ⟨ki, hki⟩ : ∃ ki : Nat, y % (↑n2 : Int) = ↑ki := ⟨(y % (↑n2 : Int)).toNat, by have := Int.emod_nonneg y (show (↑n2 : Int) ≠ 0 by omega); omega⟩
          have hkl : ki < n2 := by have := Int.emod_lt_of_pos y hp2; omega
          obtain ⟨ji, hji⟩ : ∃ ji : Nat, (↑jj : Int) % (↑n2 : Int) = ↑ji := ⟨((↑jj : Int) % (↑n2 : Int)).toNat, by have := Int.emod_nonneg (↑jj : Int) (show (↑n2 : Int) ≠ 0 by omega); omega⟩
          have hjl : ji < n2 := by have := Int.emod_lt_of_pos (↑jj : Int) hp2; omega
          have wy1 : IntKind.i64.wrap y = y := wraps_i64 _ (by omega) (by omega)
          have tk : y.tmod (↑n2 : Int) = ↑ki := by rw [Int.tmod_eq_emod_of_nonneg (by omega)]; exact hki
          have tj : (↑jj : Int).tmod (↑n2 : Int) = ↑ji := by rw [Int.tmod_eq_emod_of_nonneg (by omega)]; exact hji
          obtain ⟨x1, hx1⟩ : ∃ q, M[ki]? = some q := ⟨_, List.getElem?_eq_getElem (by rw [hMl.out]; exact hkl)⟩
          obtain ⟨x2, hx2⟩ : ∃ q, M[ji]? = some q := ⟨_, List.getElem?_eq_getElem (by rw [hMl.out]; exact hjl)⟩
          have hq1 : (M.map (mkW six data b off dc))[ki]? = some (mkW six data b off dc x1) := by rw [List.getElem?_map, hx1]; rfl
          have hq2 : (M.map (mkW six data b off dc))[ji]? = some (mkW six data b off dc x2) := by rw [List.getElem?_map, hx2]; rfl
          have Hq : Hid (_ ∧ _ ∧ _ ∧ _) := ⟨hx1, hx2, hq1, hq2⟩
          clear hx1 hx2 hq1 hq2
          have hn0 : ¬ (↑n2 : Int) = 0 := by omega
          go_wp2_with fail
          go_quiet (fail)
          go_wp2_with fail
          obtain ⟨hx1, hx2, hq1, hq2⟩ := Hq.out
          have hml9 := hMl.out
          obtain ⟨VV, hVV⟩ : ∃ V, wr.drewN nq = V := ⟨_, rfl⟩
          have ow9 : ownP VV.drew (some ⟨g2, 0, none⟩) c2 (M.map (mkW six data b off dc)) := by rw [← hVV]; exact how.out.below (below_drewN (Below.refl _ _) _).drew
          have kw9 : Below W2.heap.size W2 VV.drew := by rw [← hVV]; exact (below_drewN hbw.out _).drew
          rw [hVV]
          clear hVV
          refine wp_region_noPanic ?_
          refine wp_region_held_drew (S := fun _ => True) (by kernel_rfl) trivial (fun hHeld => ?_)
          refine wpAnyH_take (i := 0) (oi := { dst := some 90, op := Op.move (.tmp 9), type := 54, pos := "top06.go:59", after := #[], guard := none }) (v := (.slice (some ⟨g2, 0, none⟩) n2 c2)) rfl (by kernel_rfl) (by kernel_rfl) (by kernel_rfl) (fun _ _ _ h => h) (Or.inl ⟨by rfl, ?_⟩) hHeld ?_
          · intro w9 hSw
            try dsimp only at hSw
            go_simp
          try simp only [Act.put, List.setIfInBounds_toArray, List.set_cons_zero, List.set_cons_succ]
          refine wpAnyH_take (i := 2) (oi := { dst := some 92, op := Op.move (.tmp 9), type := 54, pos := "top06.go:59", after := #[{ on := 13, ground := Ground.gcOnly Departure.lateStores }], guard := none }) (v := (.slice (some ⟨g2, 0, none⟩) n2 c2)) rfl (by kernel_rfl) (by kernel_rfl) (by kernel_rfl) (fun _ _ _ h => h) (Or.inl ⟨by rfl, ?_⟩) hHeld ?_
          · intro w9 hSw
            try dsimp only at hSw
            go_simp
          try simp only [Act.put, List.setIfInBounds_toArray, List.set_cons_zero, List.set_cons_succ]
          refine wpAnyH_take (i := 4) (oi := { dst := some 94, op := Op.move (.tmp 9), type := 54, pos := "top06.go:59", after := #[], guard := none }) (v := (.slice (some ⟨g2, 0, none⟩) n2 c2)) rfl (by kernel_rfl) (by kernel_rfl) (by kernel_rfl) (fun _ _ _ h => h) (Or.inl ⟨by rfl, ?_⟩) hHeld ?_
          · intro w9 hSw
            try dsimp only at hSw
            go_simp
          try simp only [Act.put, List.setIfInBounds_toArray, List.set_cons_zero, List.set_cons_succ]
          refine wpAnyH_take (i := 8) (oi := { dst := some 98, op := Op.move (.tmp 9), type := 54, pos := "top06.go:59", after := #[], guard := none }) (v := (.slice (some ⟨g2, 0, none⟩) n2 c2)) rfl (by kernel_rfl) (by kernel_rfl) (by kernel_rfl) (fun _ _ _ h => h) (Or.inl ⟨by rfl, ?_⟩) hHeld ?_
          · intro w9 hSw
            try dsimp only at hSw
            go_simp
          try simp only [Act.put, List.setIfInBounds_toArray, List.set_cons_zero, List.set_cons_succ]
          refine wpAnyH_take (i := 1) (oi := { dst := some 91, op := Op.move (.tmp 15), type := 3, pos := "top06.go:59", after := #[], guard := none }) (v := (.int .i64 ↑ji)) rfl (by kernel_rfl) (by kernel_rfl) (by kernel_rfl) (fun _ _ _ h => h) (Or.inl ⟨by rfl, ?_⟩) hHeld ?_
          · intro w9 hSw
            try dsimp only at hSw
            go_simp
          try simp only [Act.put, List.setIfInBounds_toArray, List.set_cons_zero, List.set_cons_succ]
          refine wpAnyH_take (i := 3) (oi := { dst := some 93, op := Op.move (.tmp 14), type := 3, pos := "top06.go:59", after := #[{ on := 13, ground := Ground.gcOnly Departure.lateStores }], guard := none }) (v := (.int .i64 ↑ki)) rfl (by kernel_rfl) (by kernel_rfl) (by kernel_rfl) (fun _ _ _ h => h) (Or.inl ⟨by rfl, ?_⟩) hHeld ?_
          · intro w9 hSw
            try dsimp only at hSw
            go_simp
          try simp only [Act.put, List.setIfInBounds_toArray, List.set_cons_zero, List.set_cons_succ]
          refine wpAnyH_take (i := 5) (oi := { dst := some 95, op := Op.move (.tmp 14), type := 3, pos := "top06.go:59", after := #[], guard := none }) (v := (.int .i64 ↑ki)) rfl (by kernel_rfl) (by kernel_rfl) (by kernel_rfl) (fun _ _ _ h => h) (Or.inl ⟨by rfl, ?_⟩) hHeld ?_
          · intro w9 hSw
            try dsimp only at hSw
            go_simp
          try simp only [Act.put, List.setIfInBounds_toArray, List.set_cons_zero, List.set_cons_succ]
          refine wpAnyH_take (i := 9) (oi := { dst := some 99, op := Op.move (.tmp 15), type := 3, pos := "top06.go:59", after := #[], guard := none }) (v := (.int .i64 ↑ji)) rfl (by kernel_rfl) (by kernel_rfl) (by kernel_rfl) (fun _ _ _ h => h) (Or.inl ⟨by rfl, ?_⟩) hHeld ?_
          · intro w9 hSw
            try dsimp only at hSw
            go_simp
          try simp only [Act.put, List.setIfInBounds_toArray, List.set_cons_zero, List.set_cons_succ]
          refine wpAnyH_take (i := 6) (oi := { dst := some 96, op := Op.indexAddr 54 (.tmp 94) (.tmp 95), type := 0, pos := "top06.go:59", after := #[{ on := 4, ground := Ground.data }, { on := 5, ground := Ground.data }], guard := none }) (v := (.pointer (some ⟨g2, ki * 15, none⟩))) rfl (by kernel_rfl) (by kernel_rfl) (by kernel_rfl) (fun _ _ _ h => h) (Or.inl ⟨by rfl, ?_⟩) hHeld ?_
          · intro w9 hSw
            try dsimp only at hSw
            go_simp
          try simp only [Act.put, List.setIfInBounds_toArray, List.set_cons_zero, List.set_cons_succ]
          refine wpAnyH_take (i := 10) (oi := { dst := some 100, op := Op.indexAddr 54 (.tmp 98) (.tmp 99), type := 0, pos := "top06.go:59", after := #[{ on := 8, ground := Ground.data }, { on := 9, ground := Ground.data }], guard := none }) (v := (.pointer (some ⟨g2, ji * 15, none⟩))) rfl (by kernel_rfl) (by kernel_rfl) (by kernel_rfl) (fun _ _ _ h => h) (Or.inl ⟨by rfl, ?_⟩) hHeld ?_
          · intro w9 hSw
            try dsimp only at hSw
            go_simp
          try simp only [Act.put, List.setIfInBounds_toArray, List.set_cons_zero, List.set_cons_succ]
          generalize VV.drew = V9 at ow9 kw9 ⊢
          skip
          obtain ⟨g9, eg9, cA⟩ := ow9.at_ hq1
          cases eg9
          obtain ⟨g9, eg9, cB⟩ := ow9.at_ hq2
          cases eg9
          obtain ⟨g9, cur, eg9, Bc, lc9, ow1⟩ := ow9.put (i := ji) (by simp only [List.length_map]; omega) (mkW six data b off dc x1)
          cases eg9
          refine wpAnyH_ready (rs := [7, 11]) (by kernel_rfl) (by simp) ?_
          refine (AllReadyH.cons (o := twz52o5) rfl (fun K hK => ?A) (AllReadyH.cons (o := twz52o4) rfl (fun K hK => ?B) AllReadyH.nil))
          case' A =>
            refine step_load_at rfl _ _ rfl g2 (ki * 15) (by rfl) _ cA Try.underlying42 (by kernel_rfl) ?_
            refine hK.out _ _ trivial (fun hHeld => ?_)
            clear hK K
            try simp only [Act.put, List.setIfInBounds_toArray, List.set_cons_zero, List.set_cons_succ]
            refine wpAnyH_ready (rs := [11]) (by kernel_rfl) (by simp) ?_
            refine (AllReadyH.cons (o := twz52o4) rfl (fun K hK => ?C) AllReadyH.nil)
            refine step_load_at rfl _ _ rfl g2 (ji * 15) (by rfl) _ cB Try.underlying42 (by kernel_rfl) ?_
            refine hK.out _ _ trivial (fun hHeld => ?_)
            clear hK K
            try simp only [Act.put, List.setIfInBounds_toArray, List.set_cons_zero, List.set_cons_succ]
          case' B =>
            refine step_load_at rfl _ _ rfl g2 (ji * 15) (by rfl) _ cB Try.underlying42 (by kernel_rfl) ?_
            refine hK.out _ _ trivial (fun hHeld => ?_)
            clear hK K
            try simp only [Act.put, List.setIfInBounds_toArray, List.set_cons_zero, List.set_cons_succ]
            refine wpAnyH_ready (rs := [7]) (by kernel_rfl) (by simp) ?_
            refine (AllReadyH.cons (o := twz52o5) rfl (fun K hK => ?E) AllReadyH.nil)
            refine step_load_at rfl _ _ rfl g2 (ki * 15) (by rfl) _ cA Try.underlying42 (by kernel_rfl) ?_
            refine hK.out _ _ trivial (fun hHeld => ?_)
            clear hK K
            try simp only [Act.put, List.setIfInBounds_toArray, List.set_cons_zero, List.set_cons_succ]
          all_goals (
            refine wpAnyH_take (i := 12) (oi := { dst := some 102, op := Op.indexAddr 54 (.tmp 90) (.tmp 91), type := 0, pos := "top06.go:59", after := #[{ on := 0, ground := Ground.data }, { on := 1, ground := Ground.data }, { on := 0, ground := Ground.phase }, { on := 1, ground := Ground.phase }, { on := 2, ground := Ground.textOnly Departure.lateStores }, { on := 3, ground := Ground.textOnly Departure.lateStores }, { on := 4, ground := Ground.phase }, { on := 5, ground := Ground.phase }, { on := 6, ground := Ground.phase }, { on := 7, ground := Ground.phase }, { on := 8, ground := Ground.textOnly Departure.lateStores }, { on := 9, ground := Ground.textOnly Departure.lateStores }, { on := 10, ground := Ground.textOnly Departure.lateStoresUnsure }, { on := 11, ground := Ground.phase }], guard := none }) (v := (.pointer (some ⟨g2, ji * 15, none⟩))) rfl (by kernel_rfl) (by kernel_rfl) (by kernel_rfl) (fun _ _ _ h => h) (Or.inl ⟨by rfl, ?_⟩) hHeld ?_
            · intro w9 hSw
              try dsimp only at hSw
              go_simp
            try simp only [Act.put, List.setIfInBounds_toArray, List.set_cons_zero, List.set_cons_succ]
            refine wpAnyH_ready (rs := [13]) (by kernel_rfl) (by simp) ?_
            refine AllReadyH.cons (o := { dst := none, op := Op.store 42 (.tmp 102) (.tmp 97), type := 0, pos := "top06.go:59", after := #[{ on := 12, ground := Ground.data }, { on := 7, ground := Ground.data }, { on := 0, ground := Ground.phase }, { on := 1, ground := Ground.phase }, { on := 2, ground := Ground.textOnly Departure.lateStores }, { on := 3, ground := Ground.textOnly Departure.lateStores }, { on := 4, ground := Ground.phase }, { on := 5, ground := Ground.phase }, { on := 6, ground := Ground.phase }, { on := 7, ground := Ground.phase }, { on := 8, ground := Ground.textOnly Departure.lateStores }, { on := 9, ground := Ground.textOnly Departure.lateStores }, { on := 10, ground := Ground.textOnly Departure.lateStoresUnsure }, { on := 11, ground := Ground.phase }], guard := none }) rfl (fun K hK => ?_) AllReadyH.nil
            refine step_store_off rfl _ _ _ rfl g2 (ji * 15) 42 (mkW six data b off dc x1).v cur _ (by rfl) (by rfl) Bc (by kernel_rfl) lc9 (by kernel_rfl) rfl ?_
            refine hK.out _ _ trivial (fun hHeld => ?_)
            clear hK K
            try simp only [Act.put, List.setIfInBounds_toArray, List.set_cons_zero, List.set_cons_succ]
            obtain ⟨V8, hV8⟩ : ∃ V, V9.setRow g2 (setMany cur (ji * 15) (mkW six data b off dc x1).v.toList) = V := ⟨_, rfl⟩
            have e8 : But (fun k => k = g2) V9 V8 := by rw [← hV8]; exact (But.refl (fun k => k = g2) V9).setRow g2 (.inl rfl) _
            rw [hV8] at ow1 ⊢
            have HV8 : Hid _ := hV8
            clear hV8
            obtain ⟨g9, cur2, eg9, Bc2, lc2, ow2⟩ := ow1.put (i := ki) (by simp only [List.length_set, List.length_map]; omega) (mkW six data b off dc x2)
            cases eg9
            refine wpAnyH_take (i := 14) (oi := { dst := some 103, op := Op.indexAddr 54 (.tmp 92) (.tmp 93), type := 0, pos := "top06.go:59", after := #[{ on := 2, ground := Ground.data }, { on := 3, ground := Ground.data }, { on := 0, ground := Ground.phase }, { on := 1, ground := Ground.phase }, { on := 2, ground := Ground.phase }, { on := 3, ground := Ground.phase }, { on := 4, ground := Ground.phase }, { on := 5, ground := Ground.phase }, { on := 6, ground := Ground.phase }, { on := 7, ground := Ground.phase }, { on := 8, ground := Ground.phase }, { on := 9, ground := Ground.phase }, { on := 10, ground := Ground.phase }, { on := 11, ground := Ground.phase }, { on := 12, ground := Ground.phase }, { on := 13, ground := Ground.phase }], guard := none }) (v := (.pointer (some ⟨g2, ki * 15, none⟩))) rfl (by kernel_rfl) (by kernel_rfl) (by kernel_rfl) (fun _ _ _ h => h) (Or.inl ⟨by rfl, ?_⟩) hHeld ?_
            · intro w9 hSw
              try dsimp only at hSw
              go_simp
            try simp only [Act.put, List.setIfInBounds_toArray, List.set_cons_zero, List.set_cons_succ]
            refine wpAnyH_ready (rs := [15]) (by kernel_rfl) (by simp) ?_
            refine AllReadyH.cons (o := { dst := none, op := Op.store 42 (.tmp 103) (.tmp 101), type := 0, pos := "top06.go:59", after := #[{ on := 14, ground := Ground.data }, { on := 11, ground := Ground.data }, { on := 13, ground := Ground.chain }, { on := 0, ground := Ground.phase }, { on := 1, ground := Ground.phase }, { on := 2, ground := Ground.phase }, { on := 3, ground := Ground.phase }, { on := 4, ground := Ground.phase }, { on := 5, ground := Ground.phase }, { on := 6, ground := Ground.phase }, { on := 7, ground := Ground.phase }, { on := 8, ground := Ground.phase }, { on := 9, ground := Ground.phase }, { on := 10, ground := Ground.phase }, { on := 11, ground := Ground.phase }, { on := 12, ground := Ground.phase }, { on := 13, ground := Ground.phase }], guard := none }) rfl (fun K hK => ?_) AllReadyH.nil
            refine step_store_off rfl _ _ _ rfl g2 (ki * 15) 42 (mkW six data b off dc x2).v cur2 _ (by rfl) (by rfl) Bc2 (by kernel_rfl) lc2 (by kernel_rfl) rfl ?_
            refine hK.out _ _ trivial (fun hHeld => ?_)
            clear hK K
            try simp only [Act.put, List.setIfInBounds_toArray, List.set_cons_zero, List.set_cons_succ]
            refine wpAnyH_done (by kernel_rfl) ?_ _
            refine NoPanic.normal ?_
            have k8 : Below W2.heap.size W2 (V8.setRow g2 (setMany cur2 (ki * 15) (mkW six data b off dc x2).v.toList)) := (kw9.trans (e8.to_below kw9.size (fun kk hk hF => by omega))).trans (((But.refl (fun k => k = g2) V8).setRow g2 (.inl rfl) _).to_below (Nat.le_trans kw9.size e8.size) (fun kk hk hF => by omega))
            generalize V8.setRow g2 _ = V7 at ow2 k8 ⊢
            go_wp2
            have hl9 := Hl2.out
            refine ⟨⟨jj + 1, (M.set ji x1).set ki x2, by omega, int_eq (by omega), (swap_perm hx1 hx2).trans hperm.out, by rw [List.length_set, List.length_set]; exact hMl.out, ?_, k8⟩, by simp [intOf] <;> omega⟩
            rw [List.map_set, List.map_set]
            exact ow2
          )
        · have i5 : ¬ (↑jj : Int) < ↑ord.length := by omega
          by_cases hn : n2 < 2
          · have i7 : (↑n2 : Int) < 2 := by omega
            go_wp2
            go_ret
            exact ⟨rfl, HT2.out.bel.trans (hbw.out.mono HT2.out.le)⟩
          have i7 : ¬ (↑n2 : Int) < 2 := by omega
          have h16 : 16 < N := hbig.out (by omega)
          have hPart : Hid (Part data (KW six) (M.map (pkW six data (XW six)))) := by
            have h1 := part_cutW (six := six) (data := data) (X := XW six) (by rw [HN.out]; omega) (by rw [HN.out]; omega) (List.replicate 200 1)
            rw [HN.out] at h1
            exact h1.perm (hperm.out.map _)
          have hWO : Hid (∀ x ∈ M, WOk (pkW six data [] x)) := fun x hx => wok_piece (by rw [HN.out]; omega) (by rw [HN.out]; exact h16) (by rw [HN.out]; exact hperm.out) hx
          obtain ⟨W4, hW4⟩ : ∃ V, wr = V := ⟨_, rfl⟩
          have HGL : Hid (g2 < wr.heap.size) := how.out.lt rfl
          have T5 : Hid (TabP w.heap.size (fun k => k = g2) w wr tb mb (fs0 4 65536 10)) := HT2.out.toP.add hbw.out (fun k hk => .inr (by subst hk; exact ⟨hg2, HGL.out⟩))
          have HB0 : Hid (But (fun k => ¬ k = g2 ∧ w.heap.size ≤ k) wr wr) := But.refl _ _
          rw [hW4] at T5 HB0 how HGL ⊢
          clear hW4 hbw hbig hl2 hjj
          go_wp2
          go_loopw [110] (fun i wr => ∃ (j : Nat) (s : Fs), j ≤ n2 ∧ i = .int .i64 j ∧ Hid (TabP w.heap.size (fun k => k = g2) w wr tb mb s) ∧ Hid (But (fun k => ¬ k = g2 ∧ w.heap.size ≤ k) W4 wr) ∧ Hid (j < n2 → OneK (KW six) data s ((M.map (pkW six data (XW six))).take j) ∧ s.room = 65536 ∧ s.most = 4)) (fun i _ => n2 - (intOf i).toNat)
          case atStart => exact ⟨0, _, by omega, rfl, T5, HB0, fun _ => ⟨fs0_oneK _ data _ _ _, rfl, rfl⟩⟩
          case round =>
            obtain ⟨j, s, hj, rfl, hT, hB, hOne⟩ := hrel
            clear T5 HB0
            by_cases hlt3 : j < n2
            · have i8 : (↑j : Int) < ↑n2 := by omega
              have i9 : (0 : Int) ≤ ↑j := by omega
              obtain ⟨x, hx⟩ : ∃ q, M[j]? = some q := ⟨_, List.getElem?_eq_getElem (by rw [hMl.out]; exact hlt3)⟩
              have hq : (M.map (mkW six data b off dc))[j]? = some (mkW six data b off dc x) := by rw [List.getElem?_map, hx]; rfl
              have how3 := how.out.but hB.out (fun y hy h => by cases hy; exact h.1 rfl)
              obtain ⟨g9, eg9, hca⟩ := how3.at_ hq
              cases eg9
              have hLj : (M.map (pkW six data (XW six)))[j]? = some (pkW six data (XW six) x) := by rw [List.getElem?_map, hx]; rfl
              have hLl : (M.map (pkW six data (XW six))).length = n2 := by rw [List.length_map]; exact hMl.out
              have hsplit : M.map (pkW six data (XW six)) = (M.map (pkW six data (XW six))).take j ++ pkW six data (XW six) x :: (M.map (pkW six data (XW six))).drop (j + 1) := by
                have h1 : (M.map (pkW six data (XW six))).drop j = pkW six data (XW six) x :: (M.map (pkW six data (XW six))).drop (j + 1) := by
                  rw [List.drop_eq_getElem_cons (by rw [hLl]; exact hlt3)]
                  rw [List.getElem?_eq_getElem (by rw [hLl]; exact hlt3)] at hLj
                  injection hLj with hLj
                  rw [hLj]
                rw [← h1, List.take_append_drop]
              have htake : (M.map (pkW six data (XW six))).take (j + 1) = (M.map (pkW six data (XW six))).take j ++ [pkW six data (XW six) x] := by rw [List.take_add_one, hLj]; rfl
              have hP2 := hPart.out
              rw [hsplit] at hP2
              have hwk := hWO.out x (List.mem_of_getElem? hx)
              have hrow : Row wr (some ⟨b, off + x.1, none⟩) (pkW six data [] x).dat := row_sub (R0.out.below hT.out.bel) x.1 x.2.1
              obtain ⟨p, hp⟩ : ∃ p, pkW six data [] x = p := ⟨_, rfl⟩
              have hpX : pkW six data (XW six) x = { p with X := XW six } := by rw [← hp]
              have hpv : (mkW six data b off dc x).v = (pkV p none 0 (some ⟨b, off + x.1, none⟩) (dc - x.1)) := by rw [← hp]
              have hpok' : PktOk ({ p with X := XW six } : Pkt) := by rw [← hpX]; exact pktOk_W six data _ x
              have hppr : Hid (p.pr = wP six) := by show _ = _; rw [← hp]
              have HXW : Hid ((if p.f = 6 then [44] else []) = XW six) := by
                show _ = _
                rw [← hp]
                cases six <;> rfl
              rw [hp] at hrow hwk
              rw [hpX] at hP2 htake
              rw [hpv] at hca
              clear hq hLj hsplit hpv hx hp hpX how3
              obtain ⟨Wa, hWa⟩ : ∃ W, wr.alloc (.cells #[.int .i64 0, .int .i64 0, .int .u64 0, .int .u64 0, .int .i64 0, .int .u64 0, .int .u64 0, .int .i64 0, .int .i64 0, .bool false, .int .u32 0, .int .i64 0, .bool false, .slice none 0 0, .slice none 0 0] 42) = W := ⟨_, rfl⟩
              have Ba := blk_nw hWa
              have ka := bel_nw hWa
              obtain ⟨Wb, hWb⟩ : ∃ W, Wa.setRow wr.heap.size (pkV p none 0 (some ⟨b, off + x.1, none⟩) (dc - x.1)) = W := ⟨_, rfl⟩
              have Bb : Blk Wb wr.heap.size 42 (pkV p none 0 (some ⟨b, off + x.1, none⟩) (dc - x.1)) := by rw [← hWb]; exact Ba.set _
              have kb : Below wr.heap.size wr Wb := by rw [← hWb]; exact below_setRow ka (Nat.le_refl _) _
              have HWb : Hid _ := hWb
              have KW : Hid _ := wires_any p (some ⟨b, off + x.1, none⟩) (dc - x.1) Wb hwk (hrow.below kb) (by simp)
              clear hWb ka hrow hwk
              have sok := hT.out.ok
              have hcaps := putF_caps s { p with X := XW six }
              obtain ⟨ho1, ho2, ho3⟩ := hOne.out hlt3
              by_cases hlast : j + 1 < n2
              · have i3 : (↑j : Int) < ↑n2 - 1 := by omega
                have hB2 : (M.map (pkW six data (XW six))).drop (j + 1) ≠ [] := fun h => by
                  have h1 := congrArg List.length h
                  rw [List.length_drop, hLl] at h1
                  simp at h1
                  omega
                obtain ⟨e1, e2, e3, e4, _⟩ := oneK_waits (keyLit_W six) hP2 hB2 sok ho1 (by rw [ho2]; have := HN.out; omega) (by rw [ho3]; decide)
                have c5 : (putF s { p with X := XW six }).1.room = 65536 ∧ (putF s { p with X := XW six }).1.most = 4 := ⟨hcaps.2.1.trans ho2, hcaps.1.trans ho3⟩
                have HE3 : Hid _ := e3
                rw [← htake] at HE3
                have HC5 : Hid _ := c5
                clear e3 e4 c5 hP2 hB2 ho1 ho2 ho3 hcaps sok htake hLl
                go_wp2_with (first
                  | (refine wpList_load_at rfl _ _ rfl g2 (j * 15) (by rfl) _ hca Try.underlying42 (by kernel_rfl) ?_)
                  | (refine wpList_store_row rfl _ _ _ rfl wr.heap.size (pkV p none 0 (some ⟨b, off + x.1, none⟩) (dc - x.1)) (by rfl) (by rfl) _ _ Ba (by kernel_rfl) (by rfl) (by kernel_rfl) ?_; rw [HWb.out])
                  | (refine wpList_load_row rfl _ _ rfl wr.heap.size (by rfl) _ _ _ _ Bb Try.underlying42 rfl (by kernel_rfl) ?_))
                refine Calls.mono KW.out ?_
                rintro e W5 ⟨xa, xc, X, da4, dc4, rfl, r4, n4, x4, nx4, hX, k4⟩
                obtain rfl : X = XW six := hX.trans HXW.out
                clear hX KW
                obtain ⟨Wc, hWc⟩ : ∃ W, W5.alloc (.cells #[.int .i64 0, .int .i64 0, .int .u64 0, .int .u64 0, .int .i64 0, .int .u64 0, .int .u64 0, .int .i64 0, .int .i64 0, .bool false, .int .u32 0, .int .i64 0, .bool false, .slice none 0 0, .slice none 0 0] 42) = W := ⟨_, rfl⟩
                have Bc := blk_nw hWc
                have kc := bel_nw hWc
                obtain ⟨Wd, hWd⟩ : ∃ W, Wc.setRow W5.heap.size (pkV { p with X := XW six } xa xc da4 dc4) = W := ⟨_, rfl⟩
                have Bd : Blk Wd W5.heap.size 42 (pkV { p with X := XW six } xa xc da4 dc4) := by rw [← hWd]; exact Bc.set _
                have kd : Below W5.heap.size W5 Wd := by rw [← hWd]; exact below_setRow kc (Nat.le_refl _) _
                have HWd : Hid _ := hWd
                clear hWd
                have k9 : Below wr.heap.size wr Wd := bel_tr kb (bel_tr k4 kd)
                have Bbd := Bb.kept (bel_tr k4 kd)
                have Tb : TabP w.heap.size (fun k => k = g2 ∨ k = wr.heap.size) w Wd tb mb s := hT.out.add k9 (fun k hk => by
                  rcases hk with h | h
                  · exact .inl h
                  · exact .inr (by subst h; exact ⟨Nat.le_refl _, Bbd.lt⟩))
                have bub := hB.out.below k9
                have KP := Tb.put { p with X := XW six } xa xc da4 dc4 hpok' (r4.below kd) n4 (x4.below kd) nx4
                rw [e1, e2] at KP
                have KP : Hid _ := KP
                generalize (putF s { p with X := XW six }).1 = s5 at KP HE3 HC5
                go_wp2_with (first
                  | (refine wpList_store_row rfl _ _ _ rfl W5.heap.size (pkV { p with X := XW six } xa xc da4 dc4) (by rfl) (by rfl) _ _ Bc (by kernel_rfl) (by rfl) (by kernel_rfl) ?_; rw [HWd.out])
                  | (refine wpList_load_row rfl _ _ rfl W5.heap.size (by rfl) _ _ _ _ Bd Try.underlying42 rfl (by kernel_rfl) ?_))
                refine Calls.mono KP.out ?_
                rintro e W6 ⟨xa', xc', da', dc', rfl, T6, _, r2, _, _, bu⟩
                obtain ⟨We, hWe⟩ : ∃ W, W6.alloc (.cells #[.int .i64 0, .int .i64 0, .int .u64 0, .int .u64 0, .int .i64 0, .int .u64 0, .int .u64 0, .int .i64 0, .int .i64 0, .bool false, .int .u32 0, .int .i64 0, .bool false, .slice none 0 0, .slice none 0 0] 42) = W := ⟨_, rfl⟩
                have Be := blk_nw hWe
                obtain ⟨W7, hW7⟩ : ∃ W, We.setRow W6.heap.size (pkV pk0 xa' xc' da' dc') = W := ⟨_, rfl⟩
                have k7 : Below W6.heap.size W6 W7 := by rw [← hW7]; exact below_setRow (bel_nw hWe) (Nat.le_refl _) _
                have B7 : Blk W7 W6.heap.size 42 (pkV pk0 xa' xc' da' dc') := by rw [← hW7]; exact Be.set _
                have HW7 : Hid _ := hW7
                have T7 : TabP w.heap.size (fun k => k = g2) w W7 tb mb s5 := (T6.below k7).add (Below.refl _ _) (fun k hk => .inl (.inl hk))
                have HT7 : Hid _ := T7
                have bu7 : Hid (But (fun k => ¬ k = g2 ∧ w.heap.size ≤ k) W4 W7) := (bub.trans bu (fun k _ h => ⟨fun e => h.1 (.inl e), h.2⟩)).below k7
                clear hW7 KP Bb Ba hca HWb Bc Bd T6 bub bu Tb r2 T7 Bbd B7
                go_wp2_with (first
                  | (refine wpList_store_row rfl _ _ _ rfl W6.heap.size (pkV pk0 xa' xc' da' dc') (by rfl) (by rfl) _ _ Be (by kernel_rfl) (by rfl) (by kernel_rfl) ?_; rw [HW7.out]))
                exact ⟨⟨j + 1, s5, by omega, int_eq (by omega), HT7.out, bu7.out, fun _ => ⟨HE3.out, HC5.out⟩⟩, by simp [intOf] <;> omega⟩
              · have i3 : ¬ (↑j : Int) < ↑n2 - 1 := by omega
                have i4 : ((↑j : Int) == ↑n2 - 1) = true := by simp; omega
                have hB2 : (M.map (pkW six data (XW six))).drop (j + 1) = [] := List.drop_eq_nil_of_le (by rw [hLl]; omega)
                rw [hB2] at hP2
                obtain ⟨e1, e2, e3, q, hqm, e4⟩ := oneK_ends (keyLit_W six) hP2 sok ho1 (by rw [ho2]; have := HN.out; omega) (by rw [ho3]; decide)
                have hq9 : ∃ y, q = pkW six data (XW six) y := by
                  have h1 : q ∈ M.map (pkW six data (XW six)) := by
                    rw [← htake] at hqm
                    exact List.mem_of_mem_take hqm
                  obtain ⟨y, _, rfl⟩ := List.mem_map.1 h1
                  exact ⟨y, rfl⟩
                obtain ⟨y, rfl⟩ := hq9
                clear e2 e3 hqm hP2 hB2 ho1 ho2 ho3 hcaps sok htake hLl
                go_wp2_with (first
                  | (refine wpList_load_at rfl _ _ rfl g2 (j * 15) (by rfl) _ hca Try.underlying42 (by kernel_rfl) ?_)
                  | (refine wpList_store_row rfl _ _ _ rfl wr.heap.size (pkV p none 0 (some ⟨b, off + x.1, none⟩) (dc - x.1)) (by rfl) (by rfl) _ _ Ba (by kernel_rfl) (by rfl) (by kernel_rfl) ?_; rw [HWb.out])
                  | (refine wpList_load_row rfl _ _ rfl wr.heap.size (by rfl) _ _ _ _ Bb Try.underlying42 rfl (by kernel_rfl) ?_))
                refine Calls.mono KW.out ?_
                rintro e W5 ⟨xa, xc, X, da4, dc4, rfl, r4, n4, x4, nx4, hX, k4⟩
                obtain rfl : X = XW six := hX.trans HXW.out
                clear hX KW
                obtain ⟨Wc, hWc⟩ : ∃ W, W5.alloc (.cells #[.int .i64 0, .int .i64 0, .int .u64 0, .int .u64 0, .int .i64 0, .int .u64 0, .int .u64 0, .int .i64 0, .int .i64 0, .bool false, .int .u32 0, .int .i64 0, .bool false, .slice none 0 0, .slice none 0 0] 42) = W := ⟨_, rfl⟩
                have Bc := blk_nw hWc
                have kc := bel_nw hWc
                obtain ⟨Wd, hWd⟩ : ∃ W, Wc.setRow W5.heap.size (pkV { p with X := XW six } xa xc da4 dc4) = W := ⟨_, rfl⟩
                have Bd : Blk Wd W5.heap.size 42 (pkV { p with X := XW six } xa xc da4 dc4) := by rw [← hWd]; exact Bc.set _
                have kd : Below W5.heap.size W5 Wd := by rw [← hWd]; exact below_setRow kc (Nat.le_refl _) _
                have HWd : Hid _ := hWd
                clear hWd
                have k9 : Below wr.heap.size wr Wd := bel_tr kb (bel_tr k4 kd)
                have Bbd := Bb.kept (bel_tr k4 kd)
                have Tb : TabP w.heap.size (fun k => k = g2 ∨ k = wr.heap.size) w Wd tb mb s := hT.out.add k9 (fun k hk => by
                  rcases hk with h | h
                  · exact .inl h
                  · exact .inr (by subst h; exact ⟨Nat.le_refl _, Bbd.lt⟩))
                have bub := hB.out.below k9
                have KP := Tb.put { p with X := XW six } xa xc da4 dc4 hpok' (r4.below kd) n4 (x4.below kd) nx4
                rw [e1, e4] at KP
                have KP : Hid _ := KP
                generalize (putF s { p with X := XW six }).1 = s5 at KP 
                go_wp2_with (first
                  | (refine wpList_store_row rfl _ _ _ rfl W5.heap.size (pkV { p with X := XW six } xa xc da4 dc4) (by rfl) (by rfl) _ _ Bc (by kernel_rfl) (by rfl) (by kernel_rfl) ?_; rw [HWd.out])
                  | (refine wpList_load_row rfl _ _ rfl W5.heap.size (by rfl) _ _ _ _ Bd Try.underlying42 rfl (by kernel_rfl) ?_))
                refine Calls.mono KP.out ?_
                rintro e W6 ⟨xa', xc', da', dc', rfl, T6, _, r2, _, _, bu⟩
                obtain ⟨We, hWe⟩ : ∃ W, W6.alloc (.cells #[.int .i64 0, .int .i64 0, .int .u64 0, .int .u64 0, .int .i64 0, .int .u64 0, .int .u64 0, .int .i64 0, .int .i64 0, .bool false, .int .u32 0, .int .i64 0, .bool false, .slice none 0 0, .slice none 0 0] 42) = W := ⟨_, rfl⟩
                have Be := blk_nw hWe
                obtain ⟨W7, hW7⟩ : ∃ W, We.setRow W6.heap.size (pkV ⟨wF six, ⟨wF six, wSH six, wSL six⟩, ⟨wF six, wDH six, wDL six⟩, wP six, 9, false, 0, 0, false, XW six, data⟩ xa' xc' da' dc') = W := ⟨_, rfl⟩
                have k7 : Below W6.heap.size W6 W7 := by rw [← hW7]; exact below_setRow (bel_nw hWe) (Nat.le_refl _) _
                have B7 : Blk W7 W6.heap.size 42 (pkV ⟨wF six, ⟨wF six, wSH six, wSL six⟩, ⟨wF six, wDH six, wDL six⟩, wP six, 9, false, 0, 0, false, XW six, data⟩ xa' xc' da' dc') := by rw [← hW7]; exact Be.set _
                have HW7 : Hid _ := hW7
                have T7 : TabP w.heap.size (fun k => k = g2) w W7 tb mb s5 := (T6.below k7).add (Below.refl _ _) (fun k hk => .inl (.inl hk))
                have HT7 : Hid _ := T7
                have bu7 : Hid (But (fun k => ¬ k = g2 ∧ w.heap.size ≤ k) W4 W7) := (bub.trans bu (fun k _ h => ⟨fun e => h.1 (.inl e), h.2⟩)).below k7
                have v1 := conv_row (r2.below k7) dc'
                have v2 := conv_row (R0.out.below T7.bel) dc
                rw [HN.out] at v2
                have c3 := B7.cell 7 (.int .i64 (wP six)) rfl
                have c10 := B7.cell 14 (.slice da' data.length dc') rfl
                have cP := ((Bbd.but bu (fun hh => hh.1 (.inr rfl))).kept k7).cell 7 (.int .i64 p.pr) rfl
                rw [hppr.out] at cP
                clear hW7 KP Bb Ba hca HWb Bc Bd T6 bub bu Tb r2 T7 Bbd B7
                go_wp2_with (first
                  | (refine wpList_store_row rfl _ _ _ rfl W6.heap.size (pkV ⟨wF six, ⟨wF six, wSH six, wSL six⟩, ⟨wF six, wDH six, wDL six⟩, wP six, 9, false, 0, 0, false, XW six, data⟩ xa' xc' da' dc') (by rfl) (by rfl) _ _ Be (by kernel_rfl) (by rfl) (by kernel_rfl) ?_; rw [HW7.out]))
                exact ⟨⟨j + 1, s5, by omega, int_eq (by omega), HT7.out, bu7.out, fun h => absurd h hlast⟩, by simp [intOf] <;> omega⟩
            · have i8 : ¬ (↑j : Int) < ↑n2 := by omega
              go_wp2
              go_ret
              exact ⟨rfl, hT.out.bel⟩
end Go.Proofs.Ytbghilihccaaaaa
