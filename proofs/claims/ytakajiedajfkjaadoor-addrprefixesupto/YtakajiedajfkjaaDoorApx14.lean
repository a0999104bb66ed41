/- Texts joined: MaskLaw Back Rd Rd6 -/
import Derived.Test.YtakajiedajfkjaaDoorApx13
namespace Go.Proofs.YtakajiedajfkjaaDoor
set_option linter.unusedVariables false
theorem pow_pos' (k : Nat) : (0 : Int) < 2 ^ k := Int.pow_pos (by decide)
theorem cutLow_le (x : Int) (k : Nat) (h : 0 ≤ x) : 0 ≤ cutLow x k ∧ cutLow x k ≤ x := by
  unfold cutLow
  have hp := pow_pos' k
  exact ⟨Int.mul_nonneg (Int.ediv_nonneg h (by omega)) (by omega), Int.ediv_mul_le _ (by omega)⟩
theorem masked_ok {a : Ad} {b : Int} (h : a.ok) : (a.masked b).ok := by
  obtain ⟨h1, h2, h3⟩ := h
  have e1 := cutLow_le a.hi (64 - min (b + 128 - a.width) 64).toNat h2.1
  have e2 := cutLow_le a.lo (64 - max (b + 128 - a.width - 64) 0).toNat h3.1
  exact ⟨h1, ⟨e1.1, Int.le_trans e1.2 h2.2⟩, ⟨e2.1, Int.le_trans e2.2 h3.2⟩⟩
theorem masked_right {a : Ad} {b : Int} (h : a.ok) (hr : a.right = true) : (a.masked b).right = true := by
  obtain ⟨h1, h2, h3⟩ := h
  unfold Ad.right at hr ⊢
  show (if a.fam = 4 then _ else _) = true
  by_cases hf : a.fam = 4
  · rw [if_pos hf] at hr ⊢
    simp only [Bool.and_eq_true, beq_iff_eq] at hr ⊢
    have e1 := cutLow_le a.hi (64 - min (b + 128 - a.width) 64).toNat h2.1
    have e2 := cutLow_le a.lo (64 - max (b + 128 - a.width - 64) 0).toNat h3.1
    refine ⟨?_, ?_⟩
    · show cutLow _ _ = 0
      omega
    · show cutLow _ _ / 4294967296 = 0
      omega
  · rw [if_neg hf] at hr ⊢
    exact hr
/-- Taking in bytes behind others. -/
theorem fromGo_app (xs ys : List Int) (h l : Int) : fromGo (xs ++ ys) h l = fromGo ys (fromGo xs h l).1 (fromGo xs h l).2 := by
  induction xs generalizing h l with
  | nil => rfl
  | cons x xs ih => exact ih _ _
/-- Both words as one number. -/
def num2 (h l : Int) : Int := h * 18446744073709551616 + l
/-- The n lowest bytes of two words, taken in from 0 on: the words themselves, if they have no higher bytes. -/
theorem from_bytesGo : ∀ (n : Nat) (h l : Int), n ≤ 16 → 0 ≤ h → h < 18446744073709551616 → 0 ≤ l → l < 18446744073709551616 → num2 h l < 256 ^ n → fromGo (bytesGo n h l) 0 0 = (h, l)
  | 0, h, l, _, a, b, c, d, hn => by
    have : num2 h l < 1 := hn
    unfold num2 at this
    have e1 : h = 0 := by omega
    have e2 : l = 0 := by omega
    subst e1 e2
    rfl
  | n + 1, h, l, hn16, a, b, c, d, hn => by
    have e1 : 0 ≤ l / 256 + h * 72057594037927936 % 18446744073709551616 ∧ l / 256 + h * 72057594037927936 % 18446744073709551616 < 18446744073709551616 := by omega
    have hs : num2 (h / 256) (l / 256 + h * 72057594037927936 % 18446744073709551616) < 256 ^ n := by
      rw [Int.pow_succ] at hn
      unfold num2 at hn ⊢
      generalize (256 : Int) ^ n = p at *
      omega
    have ih := from_bytesGo n (h / 256) (l / 256 + h * 72057594037927936 % 18446744073709551616) (by omega) (by omega) (by omega) e1.1 e1.2 hs
    show fromGo (bytesGo n _ _ ++ [l % 256]) 0 0 = _
    rw [fromGo_app, ih]
    show ((h / 256) * 256 % 18446744073709551616 + (l / 256 + h * 72057594037927936 % 18446744073709551616) / 72057594037927936, (l / 256 + h * 72057594037927936 % 18446744073709551616) * 256 % 18446744073709551616 + l % 256) = (h, l)
    congr 1 <;> omega
theorem bytesGo_bytes : ∀ (n : Nat) (h l : Int), M.Bytes (bytesGo n h l)
  | 0, _, _ => M.Bytes.nil
  | n + 1, h, l => (bytesGo_bytes n _ _).app (fun z hz => by simp at hz; omega)
/-- From of Bytes is the address. -/
theorem from_bytes {a : Ad} (ho : a.ok) (hr : a.right = true) : fromB a.bytes = (a, 0) := by
  obtain ⟨⟨_, _⟩, ⟨h0, h1⟩, ⟨l0, l1⟩⟩ := ho
  unfold Ad.bytes
  rw [if_pos hr]
  unfold Ad.right at hr
  by_cases hf : a.fam = 4
  · rw [if_pos hf] at hr ⊢
    simp only [Bool.and_eq_true, beq_iff_eq] at hr
    unfold fromB
    rw [if_pos (bytesGo_length 4 _ _), from_bytesGo 4 a.hi a.lo (by omega) (by omega) (by omega) (by omega) (by omega) (by unfold num2; omega)]
    cases a
    simp_all
  · rw [if_neg hf] at hr ⊢
    have h6 : a.fam = 6 := by simpa using hr
    unfold fromB
    rw [if_neg (by rw [bytesGo_length]; omega), if_pos (bytesGo_length 16 _ _), from_bytesGo 16 a.hi a.lo (by omega) (by omega) (by omega) (by omega) (by omega) (by unfold num2; omega)]
    cases a
    simp_all
end Go.Proofs.YtakajiedajfkjaaDoor
namespace Go.Proofs.YtakajiedajfkjaaDoor
set_option linter.unusedVariables false
set_option linter.unusedSimpArgs false
theorem index_none (c : UInt8) : ∀ (x : List UInt8), c ∉ x → Lib.index x [c] = -1
  | [], _ => rfl
  | b :: l, h => by
    have h1 : ¬ c = b := fun e => h (by rw [e]; exact List.mem_cons_self ..)
    have ih := index_none c l (fun hm => h (List.mem_cons_of_mem _ hm))
    unfold Lib.index
    rw [if_neg (by simp [List.isPrefixOf, h1]), ih]
    rfl
theorem index_at (c : UInt8) : ∀ (x t : List UInt8), c ∉ x → Lib.index (x ++ c :: t) [c] = (x.length : Int)
  | [], t, _ => by
    show Lib.index (c :: t) [c] = 0
    unfold Lib.index
    rw [if_pos (by simp [List.isPrefixOf])]
  | b :: l, t, h => by
    have h1 : ¬ c = b := fun e => h (by rw [e]; exact List.mem_cons_self ..)
    have ih := index_at c l t (fun hm => h (List.mem_cons_of_mem _ hm))
    show Lib.index (b :: (l ++ c :: t)) [c] = _
    unfold Lib.index
    rw [if_neg (by simp [List.isPrefixOf, h1]), ih]
    rw [if_neg (by simp <;> omega)]
    simp
theorem join_two (c : UInt8) (x y : List UInt8) (r : List (List UInt8)) : Lib.join (x :: y :: r) [c] = x ++ c :: Lib.join (y :: r) [c] := by
  rw [Lib.join_cons, Lib.join_cons]
  simp [Lib.joinTail]
theorem split_none (c : UInt8) (s : List UInt8) (k : Nat) (h : c ∉ s) : Lib.splitK [c] 0 k s = [s] := by
  cases k with
  | zero => rfl
  | succ k => unfold Lib.splitK; rw [index_none c s h]; rfl
def hexS (U : Nat) : List UInt8 := (strOfNums (hexL U)).data.toList
def hexd (d : Nat) : UInt8 := UInt8.ofNat (hd d).toNat
theorem hexd_all : ∀ d : Fin 16, hexv (hexd d.val).toNat = some d.val ∧ ¬ hexd d.val = 58 ∧ ¬ hexd d.val = 46 ∧ (hexd d.val = 48 ↔ d.val = 0) := by decide
theorem hexS_eq (U : Nat) : hexS U = (List.range (nd U)).map fun t => hexd (U / 16 ^ (nd U - 1 - t) % 16) := by
  unfold hexS hexL
  rw [strOfNums_data, List.map_map]
  rfl
theorem hexS1 {U : Nat} (h : U < 16) : hexS U = [hexd U] := by
  rw [hexS_eq]
  simp [nd, h, List.range_succ, Nat.mod_eq_of_lt h]
theorem hexS2 {U : Nat} (h0 : ¬ U < 16) (h : U < 256) : hexS U = [hexd (U / 16), hexd (U % 16)] := by
  rw [hexS_eq]
  have : U / 16 % 16 = U / 16 := by omega
  simp [nd, h0, h, List.range_succ, this]
theorem hexS3 {U : Nat} (h0 : ¬ U < 256) (h : U < 4096) : hexS U = [hexd (U / 256), hexd (U / 16 % 16), hexd (U % 16)] := by
  rw [hexS_eq]
  have h1 : ¬ U < 16 := by omega
  have : U / 256 % 16 = U / 256 := by omega
  simp [nd, h0, h1, h, List.range_succ, this]
theorem hexS4 {U : Nat} (h0 : ¬ U < 4096) (h : U < 65536) : hexS U = [hexd (U / 4096), hexd (U / 256 % 16), hexd (U / 16 % 16), hexd (U % 16)] := by
  rw [hexS_eq]
  have h1 : ¬ U < 16 := by omega
  have h2 : ¬ U < 256 := by omega
  have : U / 4096 % 16 = U / 4096 := by omega
  simp [nd, h0, h1, h2, List.range_succ, this]
theorem isZero_hex (U : Nat) (h : U < 65536) : isZero (strOfNums (hexL U)) = decide (U = 0) := by
  have e : (strOfNums (hexL U) = ByteArray.mk #[48]) ↔ hexS U = [48] := by
    unfold hexS
    constructor
    · intro e; rw [e]
    · intro e
      cases hs : strOfNums (hexL U) with
      | mk d => cases d with
        | mk l => rw [hs] at e; simp at e; rw [e]
  unfold isZero
  rw [decide_eq_decide, e]
  by_cases h1 : U < 16
  · rw [hexS1 h1]
    have := (hexd_all ⟨U, h1⟩).2.2.2
    simpa using this
  · have hl : ∀ x y (l : List UInt8), ¬ x :: y :: l = [48] := fun x y l e => by simp at e
    constructor
    · intro e
      exfalso
      by_cases h2 : U < 256
      · rw [hexS2 h1 h2] at e; exact hl _ _ _ e
      · by_cases h3 : U < 4096
        · rw [hexS3 h2 h3] at e; exact hl _ _ _ e
        · rw [hexS4 h3 h] at e; exact hl _ _ _ e
    · intro e; omega
end Go.Proofs.YtakajiedajfkjaaDoor
