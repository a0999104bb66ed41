/- Texts joined: RMasA -/
import Derived.Test.YtcoldgpnkdallaaDoorRxa3
import Derived.Deep.DeepCutAuto
namespace Go.Proofs.YtcoldgpnkdallaaDoor
open Go.RowKit
set_option linter.unusedVariables false
set_option linter.unusedSimpArgs false
/-- A byte behind m rounds: its bits from t to m are cleared. -/
def yk (x : Int) (t m : Nat) : Int := if m ≤ t then x else x / 2 ^ (8 - t) * 2 ^ (8 - t) + x % 2 ^ (8 - m)
theorem yk_0 (x : Int) (t : Nat) : yk x t 0 = x := by unfold yk; rw [if_pos (Nat.zero_le _)]
theorem yk_8 (x : Int) (t : Nat) (ht : t ≤ 8) : yk x t 8 = keepT x t := by
  unfold yk keepT
  by_cases h : 8 ≤ t
  · rw [if_pos h, show t = 8 by omega]; simp
  · rw [if_neg h]; simp
theorem yk_skip (x : Int) (t m : Nat) (h : m < t) : yk x t (m + 1) = yk x t m := by
  unfold yk
  rw [if_pos (by omega), if_pos (by omega)]
theorem yk_bd (x : Int) (t m : Nat) (h0 : 0 ≤ x) (h1 : x ≤ 255) : 0 ≤ yk x t m ∧ yk x t m ≤ 255 := by
  unfold yk
  split
  · omega
  · rename_i h
    have hp := pow_pos' (8 - t)
    have hq := pow_pos' (8 - m)
    have e1 : 0 ≤ x / 2 ^ (8 - t) := Int.ediv_nonneg h0 (by omega)
    have e2 := Int.mul_nonneg e1 (Int.le_of_lt hp)
    have e3 := Int.emod_nonneg x (show (2 : Int) ^ (8 - m) ≠ 0 by omega)
    have e4 : x % 2 ^ (8 - m) ≤ x % 2 ^ (8 - t) := by
      obtain ⟨d, hd⟩ : ∃ d, 8 - t = (8 - m) + d := ⟨(8 - t) - (8 - m), by omega⟩
      have : x % 2 ^ (8 - m) = (x % 2 ^ (8 - t)) % 2 ^ (8 - m) := by rw [hd, Int.pow_add, Int.emod_emod_of_dvd _ (Int.dvd_mul_right ..)]
      rw [this]
      have z1 := Int.emod_nonneg x (show (2 : Int) ^ (8 - t) ≠ 0 by omega)
      have z2 := Int.mul_ediv_add_emod (x % 2 ^ (8 - t)) (2 ^ (8 - m))
      have z3 := Int.mul_nonneg (Int.le_of_lt hq) (Int.ediv_nonneg z1 (Int.le_of_lt hq))
      omega
    have e5 := Int.mul_ediv_add_emod x (2 ^ (8 - t))
    have e6 : 2 ^ (8 - t) * (x / 2 ^ (8 - t)) = x / 2 ^ (8 - t) * 2 ^ (8 - t) := Int.mul_comm ..
    omega
set_option maxRecDepth 100000 in
theorem clr_nat : ∀ m : Nat, m < 8 → ∀ y : Nat, y < 256 → bits .and .u8 (y : Int) (bits .xor .u8 255 (128 / 2 ^ m)) = (y : Int) - (y : Int) / 2 ^ (7 - m) % 2 * 2 ^ (7 - m) := by
  intro m hm
  match m, hm with
  | 0, _ => decide +kernel
  | 1, _ => decide +kernel
  | 2, _ => decide +kernel
  | 3, _ => decide +kernel
  | 4, _ => decide +kernel
  | 5, _ => decide +kernel
  | 6, _ => decide +kernel
  | 7, _ => decide +kernel
theorem yk_step (x : Int) (t m : Nat) (h : t ≤ m) (hm : m < 8) (h0 : 0 ≤ x) (h1 : x ≤ 255) : bits .and .u8 (yk x t m) (bits .xor .u8 255 (128 / 2 ^ m)) = yk x t (m + 1) := by
  have hb := yk_bd x t m h0 h1
  obtain ⟨y, hy⟩ := Int.eq_ofNat_of_zero_le hb.1
  have hc := clr_nat m hm y (by omega)
  rw [hy, hc, ← hy]
  clear hc hy hb
  unfold yk
  rw [if_neg (show ¬ m + 1 ≤ t by omega)]
  match m, hm with
  | 0, _ =>
    match t, h with
    | 0, _ =>
      rw [if_pos (by omega)]
      show x - x / 128 % 2 * 128 = x / 256 * 256 + x % 128
      omega
  | 1, _ =>
    match t, h with
    | 0, _ =>
      rw [if_neg (by omega)]
      show (x / 256 * 256 + x % 128) - (x / 256 * 256 + x % 128) / 64 % 2 * 64 = x / 256 * 256 + x % 64
      omega
    | 1, _ =>
      rw [if_pos (by omega)]
      show x - x / 64 % 2 * 64 = x / 128 * 128 + x % 64
      omega
  | 2, _ =>
    match t, h with
    | 0, _ =>
      rw [if_neg (by omega)]
      show (x / 256 * 256 + x % 64) - (x / 256 * 256 + x % 64) / 32 % 2 * 32 = x / 256 * 256 + x % 32
      omega
    | 1, _ =>
      rw [if_neg (by omega)]
      show (x / 128 * 128 + x % 64) - (x / 128 * 128 + x % 64) / 32 % 2 * 32 = x / 128 * 128 + x % 32
      omega
    | 2, _ =>
      rw [if_pos (by omega)]
      show x - x / 32 % 2 * 32 = x / 64 * 64 + x % 32
      omega
  | 3, _ =>
    match t, h with
    | 0, _ =>
      rw [if_neg (by omega)]
      show (x / 256 * 256 + x % 32) - (x / 256 * 256 + x % 32) / 16 % 2 * 16 = x / 256 * 256 + x % 16
      omega
    | 1, _ =>
      rw [if_neg (by omega)]
      show (x / 128 * 128 + x % 32) - (x / 128 * 128 + x % 32) / 16 % 2 * 16 = x / 128 * 128 + x % 16
      omega
    | 2, _ =>
      rw [if_neg (by omega)]
      show (x / 64 * 64 + x % 32) - (x / 64 * 64 + x % 32) / 16 % 2 * 16 = x / 64 * 64 + x % 16
      omega
    | 3, _ =>
      rw [if_pos (by omega)]
      show x - x / 16 % 2 * 16 = x / 32 * 32 + x % 16
      omega
  | 4, _ =>
    match t, h with
    | 0, _ =>
      rw [if_neg (by omega)]
      show (x / 256 * 256 + x % 16) - (x / 256 * 256 + x % 16) / 8 % 2 * 8 = x / 256 * 256 + x % 8
      omega
    | 1, _ =>
      rw [if_neg (by omega)]
      show (x / 128 * 128 + x % 16) - (x / 128 * 128 + x % 16) / 8 % 2 * 8 = x / 128 * 128 + x % 8
      omega
    | 2, _ =>
      rw [if_neg (by omega)]
      show (x / 64 * 64 + x % 16) - (x / 64 * 64 + x % 16) / 8 % 2 * 8 = x / 64 * 64 + x % 8
      omega
    | 3, _ =>
      rw [if_neg (by omega)]
      show (x / 32 * 32 + x % 16) - (x / 32 * 32 + x % 16) / 8 % 2 * 8 = x / 32 * 32 + x % 8
      omega
    | 4, _ =>
      rw [if_pos (by omega)]
      show x - x / 8 % 2 * 8 = x / 16 * 16 + x % 8
      omega
  | 5, _ =>
    match t, h with
    | 0, _ =>
      rw [if_neg (by omega)]
      show (x / 256 * 256 + x % 8) - (x / 256 * 256 + x % 8) / 4 % 2 * 4 = x / 256 * 256 + x % 4
      omega
    | 1, _ =>
      rw [if_neg (by omega)]
      show (x / 128 * 128 + x % 8) - (x / 128 * 128 + x % 8) / 4 % 2 * 4 = x / 128 * 128 + x % 4
      omega
    | 2, _ =>
      rw [if_neg (by omega)]
      show (x / 64 * 64 + x % 8) - (x / 64 * 64 + x % 8) / 4 % 2 * 4 = x / 64 * 64 + x % 4
      omega
    | 3, _ =>
      rw [if_neg (by omega)]
      show (x / 32 * 32 + x % 8) - (x / 32 * 32 + x % 8) / 4 % 2 * 4 = x / 32 * 32 + x % 4
      omega
    | 4, _ =>
      rw [if_neg (by omega)]
      show (x / 16 * 16 + x % 8) - (x / 16 * 16 + x % 8) / 4 % 2 * 4 = x / 16 * 16 + x % 4
      omega
    | 5, _ =>
      rw [if_pos (by omega)]
      show x - x / 4 % 2 * 4 = x / 8 * 8 + x % 4
      omega
  | 6, _ =>
    match t, h with
    | 0, _ =>
      rw [if_neg (by omega)]
      show (x / 256 * 256 + x % 4) - (x / 256 * 256 + x % 4) / 2 % 2 * 2 = x / 256 * 256 + x % 2
      omega
    | 1, _ =>
      rw [if_neg (by omega)]
      show (x / 128 * 128 + x % 4) - (x / 128 * 128 + x % 4) / 2 % 2 * 2 = x / 128 * 128 + x % 2
      omega
    | 2, _ =>
      rw [if_neg (by omega)]
      show (x / 64 * 64 + x % 4) - (x / 64 * 64 + x % 4) / 2 % 2 * 2 = x / 64 * 64 + x % 2
      omega
    | 3, _ =>
      rw [if_neg (by omega)]
      show (x / 32 * 32 + x % 4) - (x / 32 * 32 + x % 4) / 2 % 2 * 2 = x / 32 * 32 + x % 2
      omega
    | 4, _ =>
      rw [if_neg (by omega)]
      show (x / 16 * 16 + x % 4) - (x / 16 * 16 + x % 4) / 2 % 2 * 2 = x / 16 * 16 + x % 2
      omega
    | 5, _ =>
      rw [if_neg (by omega)]
      show (x / 8 * 8 + x % 4) - (x / 8 * 8 + x % 4) / 2 % 2 * 2 = x / 8 * 8 + x % 2
      omega
    | 6, _ =>
      rw [if_pos (by omega)]
      show x - x / 2 % 2 * 2 = x / 4 * 4 + x % 2
      omega
  | 7, _ =>
    match t, h with
    | 0, _ =>
      rw [if_neg (by omega)]
      show (x / 256 * 256 + x % 2) - (x / 256 * 256 + x % 2) / 1 % 2 * 1 = x / 256 * 256 + x % 1
      omega
    | 1, _ =>
      rw [if_neg (by omega)]
      show (x / 128 * 128 + x % 2) - (x / 128 * 128 + x % 2) / 1 % 2 * 1 = x / 128 * 128 + x % 1
      omega
    | 2, _ =>
      rw [if_neg (by omega)]
      show (x / 64 * 64 + x % 2) - (x / 64 * 64 + x % 2) / 1 % 2 * 1 = x / 64 * 64 + x % 1
      omega
    | 3, _ =>
      rw [if_neg (by omega)]
      show (x / 32 * 32 + x % 2) - (x / 32 * 32 + x % 2) / 1 % 2 * 1 = x / 32 * 32 + x % 1
      omega
    | 4, _ =>
      rw [if_neg (by omega)]
      show (x / 16 * 16 + x % 2) - (x / 16 * 16 + x % 2) / 1 % 2 * 1 = x / 16 * 16 + x % 1
      omega
    | 5, _ =>
      rw [if_neg (by omega)]
      show (x / 8 * 8 + x % 2) - (x / 8 * 8 + x % 2) / 1 % 2 * 1 = x / 8 * 8 + x % 1
      omega
    | 6, _ =>
      rw [if_neg (by omega)]
      show (x / 4 * 4 + x % 2) - (x / 4 * 4 + x % 2) / 1 % 2 * 1 = x / 4 * 4 + x % 1
      omega
    | 7, _ =>
      rw [if_pos (by omega)]
      show x - x / 1 % 2 * 1 = x / 2 * 2 + x % 1
      omega
theorem bytes_bytesM (a : Ad) : M.Bytes a.bytes := by
  unfold Ad.bytes
  split
  · exact bytesGo_bytes _ _ _
  · exact M.Bytes.nil
theorem wpList_buildM {ops : Array Oper} {rest : List Oper} {o : Oper} {ac : Act} {Q : Exit → Act → World → Prop} (w : World) (hgd : o.guard = none) (t : TypeId) (parts : Array (Nat × Operand)) (ho : o.op = Op.build t parts)
    (vs : Array (Nat × Value)) (hv : parts.map (fun p => (p.1, ac.eval p.2)) = vs) (r : Value) (hrun : (Instr.build t vs).run Tryd.prog w = .ok r w) (h : wpList Tryd.prog ops Q rest (ac.put o.dst r) w) : wpList Tryd.prog ops Q (o :: rest) ac w := by
  refine wpList_plain hgd fun K hK => ?_
  unfold Oper.wp
  subst hv
  simp [execOp, ho, hrun, Result.andThen]
  exact hK _ _ h
set_option maxRecDepth 100000 in
set_option maxHeartbeats 4000000 in
theorem rmask_n1 (f h l b : Int) (w : World) (ho : Ad.ok ⟨f, h, l⟩) (hr : Ad.right ⟨f, h, l⟩ = false) :
    Calls Tryd.prog 84 #[.agg #[.int .i64 f, .int .u64 h, .int .u64 l], .int .i64 b] w fun e w' => e = .returned (.tuple #[.agg #[.int .i64 0, .int .u64 0, .int .u64 0], .int .i64 1]) ∧ Below w.heap.size w w' := by
  obtain ⟨W1, hW1⟩ : ∃ W1, w.alloc (.cells #[.int .i64 f, .int .u64 h, .int .u64 l] 39) = W1 := ⟨_, rfl⟩
  have b1 := bel_nw hW1
  have P1 := blk_nw hW1
  obtain ⟨W2, hW2⟩ : ∃ W2, W1.alloc (.cells #[.int .i64 0, .int .u64 0, .int .u64 0] 39) = W2 := ⟨_, rfl⟩
  have b2 := bel_al b1 hW2
  have P2 := P1.al hW2
  have R2 := blk_nw hW2
  have g1 : w.heap.size < W1.heap.size := P1.lt
  have KR : Hid (∀ W, Calls Tryd.prog 40 #[.agg #[.int .i64 f, .int .u64 h, .int .u64 l]] W fun e w' => e = .returned (.bool false) ∧ Below W.heap.size W w') := fun W => by
    have := rright_any f h l W ho.2.2.1
    rw [hr] at this
    exact Calls.mono this (by rintro e w' ⟨rfl, rfl⟩; exact ⟨rfl, (Below.refl _ _).alloc (Nat.le_refl _) _⟩)
  obtain ⟨WD, hWD⟩ : ∃ W, Ad.width ⟨f, h, l⟩ = W := ⟨_, rfl⟩
  have KS : Hid (∀ W, Calls Tryd.prog 97 #[.int .i64 f] W fun e w' => e = .returned (.int .i64 WD) ∧ w' = W) := fun W => by
    have := rsize_any f W
    have e : (if f = 4 then (32 : Int) else 128) = WD := hWD
    rw [e] at this
    exact this
  clear hr KS hWD
  go_enter Tryd.func84, Tryd.ntmps84
  go_wp2_with (refine wpList_load_row rfl _ _ rfl w.heap.size (by rfl) _ _ _ _ P2 Tryd.underlying39 rfl (by kernel_rfl) ?_)
  refine Calls.mono (KR.out _) ?_
  rintro e W3 ⟨rfl, bb⟩
  have P3 := P2.kept bb
  have R3 := R2.kept bb
  have b3 := bel_tr b2 bb
  clear KR bb P2 R2 b2 hW1 hW2 P1 b1
  have hbz : (Instr.build 39 #[]).run Tryd.prog W3 = .ok (.agg #[.int .i64 0, .int .u64 0, .int .u64 0]) W3 := by kernel_rfl
  have Rf := R3.set #[.int .i64 0, .int .u64 0, .int .u64 0]
  have bf := below_setRow b3 (Nat.le_of_lt g1) #[.int .i64 0, .int .u64 0, .int .u64 0]
  go_wp2_with (first
    | (refine wpList_buildM _ rfl _ _ rfl _ (by rfl) _ hbz ?_)
    | (refine wpList_store_row rfl _ _ _ rfl W1.heap.size #[.int .i64 0, .int .u64 0, .int .u64 0] (by rfl) (by rfl) _ _ R3 (by kernel_rfl) (by rfl) (by kernel_rfl) ?_))
  exact ret_cell_tmp (k := 4) (j := 5) Tryd.f84 (by kernel_rfl) Rf Tryd.underlying39 (by kernel_rfl) (by rfl) (by rfl) rfl ⟨rfl, bf⟩
set_option maxRecDepth 100000 in
set_option maxHeartbeats 4000000 in
theorem rmask_n2 (f h l b : Int) (w : World) (ho : Ad.ok ⟨f, h, l⟩) (hr : Ad.right ⟨f, h, l⟩ = true) (hb : b < 0) :
    Calls Tryd.prog 84 #[.agg #[.int .i64 f, .int .u64 h, .int .u64 l], .int .i64 b] w fun e w' => e = .returned (.tuple #[.agg #[.int .i64 0, .int .u64 0, .int .u64 0], .int .i64 1]) ∧ Below w.heap.size w w' := by
  obtain ⟨W1, hW1⟩ : ∃ W1, w.alloc (.cells #[.int .i64 f, .int .u64 h, .int .u64 l] 39) = W1 := ⟨_, rfl⟩
  have b1 := bel_nw hW1
  have P1 := blk_nw hW1
  obtain ⟨W2, hW2⟩ : ∃ W2, W1.alloc (.cells #[.int .i64 0, .int .u64 0, .int .u64 0] 39) = W2 := ⟨_, rfl⟩
  have b2 := bel_al b1 hW2
  have P2 := P1.al hW2
  have R2 := blk_nw hW2
  have g1 : w.heap.size < W1.heap.size := P1.lt
  have KR : Hid (∀ W, Calls Tryd.prog 40 #[.agg #[.int .i64 f, .int .u64 h, .int .u64 l]] W fun e w' => e = .returned (.bool true) ∧ Below W.heap.size W w') := fun W => by
    have := rright_any f h l W ho.2.2.1
    rw [hr] at this
    exact Calls.mono this (by rintro e w' ⟨rfl, rfl⟩; exact ⟨rfl, (Below.refl _ _).alloc (Nat.le_refl _) _⟩)
  obtain ⟨WD, hWD⟩ : ∃ W, Ad.width ⟨f, h, l⟩ = W := ⟨_, rfl⟩
  have KS : Hid (∀ W, Calls Tryd.prog 97 #[.int .i64 f] W fun e w' => e = .returned (.int .i64 WD) ∧ w' = W) := fun W => by
    have := rsize_any f W
    have e : (if f = 4 then (32 : Int) else 128) = WD := hWD
    rw [e] at this
    exact this
  clear hr KS hWD
  go_enter Tryd.func84, Tryd.ntmps84
  go_wp2_with (refine wpList_load_row rfl _ _ rfl w.heap.size (by rfl) _ _ _ _ P2 Tryd.underlying39 rfl (by kernel_rfl) ?_)
  refine Calls.mono (KR.out _) ?_
  rintro e W3 ⟨rfl, bb⟩
  have P3 := P2.kept bb
  have R3 := R2.kept bb
  have b3 := bel_tr b2 bb
  clear KR bb P2 R2 b2 hW1 hW2 P1 b1
  have hbz : (Instr.build 39 #[]).run Tryd.prog W3 = .ok (.agg #[.int .i64 0, .int .u64 0, .int .u64 0]) W3 := by kernel_rfl
  have Rf := R3.set #[.int .i64 0, .int .u64 0, .int .u64 0]
  have bf := below_setRow b3 (Nat.le_of_lt g1) #[.int .i64 0, .int .u64 0, .int .u64 0]
  go_wp2_with (first
    | (refine wpList_buildM _ rfl _ _ rfl _ (by rfl) _ hbz ?_)
    | (refine wpList_store_row rfl _ _ _ rfl W1.heap.size #[.int .i64 0, .int .u64 0, .int .u64 0] (by rfl) (by rfl) _ _ R3 (by kernel_rfl) (by rfl) (by kernel_rfl) ?_))
  exact ret_cell_tmp (k := 4) (j := 5) Tryd.f84 (by kernel_rfl) Rf Tryd.underlying39 (by kernel_rfl) (by rfl) (by rfl) rfl ⟨rfl, bf⟩
set_option maxRecDepth 100000 in
set_option maxHeartbeats 4000000 in
theorem rmask_n3 (f h l b : Int) (w : World) (ho : Ad.ok ⟨f, h, l⟩) (hr : Ad.right ⟨f, h, l⟩ = true) (hb : ¬ b < 0) (hw : b > Ad.width ⟨f, h, l⟩) :
    Calls Tryd.prog 84 #[.agg #[.int .i64 f, .int .u64 h, .int .u64 l], .int .i64 b] w fun e w' => e = .returned (.tuple #[.agg #[.int .i64 0, .int .u64 0, .int .u64 0], .int .i64 1]) ∧ Below w.heap.size w w' := by
  obtain ⟨W1, hW1⟩ : ∃ W1, w.alloc (.cells #[.int .i64 f, .int .u64 h, .int .u64 l] 39) = W1 := ⟨_, rfl⟩
  have b1 := bel_nw hW1
  have P1 := blk_nw hW1
  obtain ⟨W2, hW2⟩ : ∃ W2, W1.alloc (.cells #[.int .i64 0, .int .u64 0, .int .u64 0] 39) = W2 := ⟨_, rfl⟩
  have b2 := bel_al b1 hW2
  have P2 := P1.al hW2
  have R2 := blk_nw hW2
  have g1 : w.heap.size < W1.heap.size := P1.lt
  have KR : Hid (∀ W, Calls Tryd.prog 40 #[.agg #[.int .i64 f, .int .u64 h, .int .u64 l]] W fun e w' => e = .returned (.bool true) ∧ Below W.heap.size W w') := fun W => by
    have := rright_any f h l W ho.2.2.1
    rw [hr] at this
    exact Calls.mono this (by rintro e w' ⟨rfl, rfl⟩; exact ⟨rfl, (Below.refl _ _).alloc (Nat.le_refl _) _⟩)
  obtain ⟨WD, hWD⟩ : ∃ W, Ad.width ⟨f, h, l⟩ = W := ⟨_, rfl⟩
  have KS : Hid (∀ W, Calls Tryd.prog 97 #[.int .i64 f] W fun e w' => e = .returned (.int .i64 WD) ∧ w' = W) := fun W => by
    have := rsize_any f W
    have e : (if f = 4 then (32 : Int) else 128) = WD := hWD
    rw [e] at this
    exact this
  rw [hWD] at hw
  clear hr hWD
  go_enter Tryd.func84, Tryd.ntmps84
  go_wp2_with (refine wpList_load_row rfl _ _ rfl w.heap.size (by rfl) _ _ _ _ P2 Tryd.underlying39 rfl (by kernel_rfl) ?_)
  refine Calls.mono (KR.out _) ?_
  rintro e W3 ⟨rfl, bb⟩
  have P3 := P2.kept bb
  have R3 := R2.kept bb
  have b3 := bel_tr b2 bb
  clear KR bb P2 R2 b2 hW1 hW2 P1 b1
  have d0 := P3.cell 0 (.int .i64 f) rfl
  go_wp2_with fail
  refine Calls.mono (KS.out _) ?_
  rintro e W4 ⟨rfl, hW4⟩
  rw [hW4]
  clear hW4 W4 KS d0
  have hbz : (Instr.build 39 #[]).run Tryd.prog W3 = .ok (.agg #[.int .i64 0, .int .u64 0, .int .u64 0]) W3 := by kernel_rfl
  have Rf := R3.set #[.int .i64 0, .int .u64 0, .int .u64 0]
  have bf := below_setRow b3 (Nat.le_of_lt g1) #[.int .i64 0, .int .u64 0, .int .u64 0]
  go_wp2_with (first
    | (refine wpList_buildM _ rfl _ _ rfl _ (by rfl) _ hbz ?_)
    | (refine wpList_store_row rfl _ _ _ rfl W1.heap.size #[.int .i64 0, .int .u64 0, .int .u64 0] (by rfl) (by rfl) _ _ R3 (by kernel_rfl) (by rfl) (by kernel_rfl) ?_))
  exact ret_cell_tmp (k := 4) (j := 5) Tryd.f84 (by kernel_rfl) Rf Tryd.underlying39 (by kernel_rfl) (by rfl) (by rfl) rfl ⟨rfl, bf⟩
end Go.Proofs.YtcoldgpnkdallaaDoor
