/- Texts joined: Rd6 -/
import Derived.Test.YtjdapofjlbifjaaDoorTpa21
namespace Go.Proofs.YtjdapofjlbifjaaDoor
set_option linter.unusedVariables false
set_option linter.unusedSimpArgs false
def hexS (U : Nat) : List UInt8 := (strOfNums (hexL U)).data.toList
def hexd (d : Nat) : UInt8 := UInt8.ofNat (hd d).toNat
theorem hexd_all : ∀ d : Fin 16, hexv (hexd d.val).toNat = some d.val ∧ ¬ hexd d.val = 58 ∧ ¬ hexd d.val = 46 ∧ (hexd d.val = 48 ↔ d.val = 0) := by decide
theorem hexv_hexd (d : Nat) (h : d < 16) : hexv (hexd d).toNat = some d := (hexd_all ⟨d, h⟩).1
theorem hexS_eq (U : Nat) : hexS U = (List.range (nd U)).map fun t => hexd (U / 16 ^ (nd U - 1 - t) % 16) := by
  unfold hexS hexL
  rw [strOfNums_data, List.map_map]
  rfl
theorem hexS1 {U : Nat} (h : U < 16) : hexS U = [hexd U] := by
  rw [hexS_eq]
  simp [nd, h, List.range_succ, Nat.mod_eq_of_lt h]
theorem hexS2 {U : Nat} (h0 : ¬ U < 16) (h : U < 256) : hexS U = [hexd (U / 16), hexd (U % 16)] := by
  rw [hexS_eq]
  have : U / 16 % 16 = U / 16 := by omega
  simp [nd, h0, h, List.range_succ, this]
theorem hexS3 {U : Nat} (h0 : ¬ U < 256) (h : U < 4096) : hexS U = [hexd (U / 256), hexd (U / 16 % 16), hexd (U % 16)] := by
  rw [hexS_eq]
  have h1 : ¬ U < 16 := by omega
  have : U / 256 % 16 = U / 256 := by omega
  simp [nd, h0, h1, h, List.range_succ, this]
theorem hexS4 {U : Nat} (h0 : ¬ U < 4096) (h : U < 65536) : hexS U = [hexd (U / 4096), hexd (U / 256 % 16), hexd (U / 16 % 16), hexd (U % 16)] := by
  rw [hexS_eq]
  have h1 : ¬ U < 16 := by omega
  have h2 : ¬ U < 256 := by omega
  have : U / 4096 % 16 = U / 4096 := by omega
  simp [nd, h0, h1, h2, List.range_succ, this]
theorem hexGo_step (d : Nat) (h : d < 16) (cs : List UInt8) (i n : Nat) (hi : i < 4) : hexGo (hexd d :: cs) i n = hexGo cs (i + 1) (n * 16 + d) := by
  show (match hexv (hexd d).toNat with | none => none | some d => if 4 ≤ i then none else hexGo cs (i + 1) (n * 16 + d)) = _
  rw [hexv_hexd d h]
  simp only
  rw [if_neg (by omega)]
theorem grp_hex (U : Nat) (h : U < 65536) : grp (hexS U) = ((U : Int), true) := by
  by_cases h1 : U < 16
  · rw [hexS1 h1]; unfold grp; rw [if_neg (by simp), hexGo_step _ h1 _ _ _ (by omega)]; simp [hexGo, tell]
  · by_cases h2 : U < 256
    · rw [hexS2 h1 h2]; unfold grp
      rw [if_neg (by simp), hexGo_step _ (by omega) _ _ _ (by omega), hexGo_step _ (by omega) _ _ _ (by omega)]; simp [hexGo, tell]; omega
    · by_cases h3 : U < 4096
      · rw [hexS3 h2 h3]; unfold grp
        rw [if_neg (by simp), hexGo_step _ (by omega) _ _ _ (by omega), hexGo_step _ (by omega) _ _ _ (by omega), hexGo_step _ (by omega) _ _ _ (by omega)]; simp [hexGo, tell]; omega
      · rw [hexS4 h3 h]; unfold grp
        rw [if_neg (by simp), hexGo_step _ (by omega) _ _ _ (by omega), hexGo_step _ (by omega) _ _ _ (by omega), hexGo_step _ (by omega) _ _ _ (by omega), hexGo_step _ (by omega) _ _ _ (by omega)]; simp [hexGo, tell]; omega
theorem hexS_chars (U : Nat) : ∀ c ∈ hexS U, ¬ c = 58 ∧ ¬ c = 46 := fun c hc => by
  rw [hexS_eq] at hc
  obtain ⟨t, _, rfl⟩ := List.mem_map.1 hc
  have := hexd_all ⟨U / 16 ^ (nd U - 1 - t) % 16, Nat.mod_lt _ (by decide)⟩
  exact ⟨this.2.1, this.2.2.1⟩
theorem hexS_ne (U : Nat) : hexS U ≠ [] := by
  intro e
  have := congrArg List.length e
  rw [hexS_eq] at this
  simp at this
  unfold nd at this
  repeat' split at this
  all_goals omega
theorem isZero_hex (U : Nat) (h : U < 65536) : isZero (strOfNums (hexL U)) = decide (U = 0) := by
  have e : (strOfNums (hexL U) = ByteArray.mk #[48]) ↔ hexS U = [48] := by
    unfold hexS
    constructor
    · intro e; rw [e]
    · intro e
      cases hs : strOfNums (hexL U) with
      | mk d => cases d with
        | mk l => rw [hs] at e; simp at e; rw [e]
  unfold isZero
  rw [decide_eq_decide, e]
  by_cases h1 : U < 16
  · rw [hexS1 h1]
    have := (hexd_all ⟨U, h1⟩).2.2.2
    simpa using this
  · have hl : ∀ x y (l : List UInt8), ¬ x :: y :: l = [48] := fun x y l e => by simp at e
    constructor
    · intro e
      exfalso
      by_cases h2 : U < 256
      · rw [hexS2 h1 h2] at e; exact hl _ _ _ e
      · by_cases h3 : U < 4096
        · rw [hexS3 h2 h3] at e; exact hl _ _ _ e
        · rw [hexS4 h3 h] at e; exact hl _ _ _ e
    · intro e; omega
/-- The bytes of numbers below 65536. -/
def flat (us : List Nat) : List Int := us.flatMap fun n : Nat => [(n : Int) / 256, (n : Int) % 256]
theorem flat_length (us : List Nat) : (flat us).length = 2 * us.length := by
  induction us with
  | nil => rfl
  | cons u us ih => simp only [flat, List.flatMap_cons, List.length_append, List.length_cons, List.length_nil] at ih ⊢; omega
theorem flat_app (us vs : List Nat) : flat (us ++ vs) = flat us ++ flat vs := by simp [flat]
theorem flat_zero (m : Nat) : flat (List.replicate m 0) = List.replicate (2 * m) 0 := by
  induction m with
  | zero => rfl
  | succ m ih =>
    rw [List.replicate_succ, show (0 :: List.replicate m 0 : List Nat) = [0] ++ List.replicate m 0 from rfl, flat_app, ih, show 2 * (m + 1) = 2 + 2 * m by omega, ← List.replicate_append_replicate]
    rfl
theorem gsGo_hex : ∀ (us : List Nat) (acc : List Int), (∀ u ∈ us, u < 65536) → gsGo (us.map hexS) acc = some (acc ++ flat us)
  | [], acc, _ => by simp [gsGo, flat]
  | u :: us, acc, h => by
    rw [List.map_cons]
    unfold gsGo
    rw [grp_hex u (h u (List.mem_cons_self ..)), if_pos rfl, gsGo_hex us _ (fun v hv => h v (List.mem_cons_of_mem _ hv))]
    simp [flat]
theorem gs_join (us : List Nat) (h : ∀ u ∈ us, u < 65536) (h8 : us.length ≤ 9) : gs (Lib.join (us.map hexS) [58]) = some (flat us) := by
  unfold gs
  cases us with
  | nil => rfl
  | cons u us =>
    have hne : Lib.join ((u :: us).map hexS) [58] ≠ [] := by
      rw [List.map_cons, Lib.join_cons]
      intro e
      exact hexS_ne u (List.append_eq_nil_iff.1 e).1
    have hl := join_len 58 ((u :: us).map hexS)
    rw [List.length_map] at hl
    rw [if_neg hne, split_join 58 ((u :: us).map hexS) _ (by simp) (fun w hw hm => by
      obtain ⟨v, _, rfl⟩ := List.mem_map.1 hw
      exact (hexS_chars v 58 hm).1 rfl) (by rw [List.length_map]; omega), gsGo_hex _ _ h]
    rfl
/-- The numbers of bytes, two by two. -/
def wordsOf : List Int → List Nat
  | x :: y :: r => (256 * x + y).toNat :: wordsOf r
  | _ => []
theorem flat_words : ∀ (b : List Int), b.length % 2 = 0 → M.Bytes b → flat (wordsOf b) = b
  | [], _, _ => rfl
  | [x], h, _ => by simp at h
  | x :: y :: r, h, hb => by
    have hx := hb x (List.mem_cons_self ..)
    have hy := hb y (List.mem_cons_of_mem _ (List.mem_cons_self ..))
    have ih := flat_words r (by simp at h ⊢; omega) (fun z hz => hb z (List.mem_cons_of_mem _ (List.mem_cons_of_mem _ hz)))
    show flat ((256 * x + y).toNat :: wordsOf r) = _
    rw [show ((256 * x + y).toNat :: wordsOf r) = [(256 * x + y).toNat] ++ wordsOf r from rfl, flat_app, ih]
    simp only [flat, List.flatMap_cons, List.flatMap_nil, List.append_nil, List.cons_append, List.nil_append]
    congr 1
    · omega
    · congr 1; omega
theorem words_lt : ∀ (b : List Int), M.Bytes b → ∀ u ∈ wordsOf b, u < 65536
  | [], _, u, h => by simp [wordsOf] at h
  | [x], _, u, h => by simp [wordsOf] at h
  | x :: y :: r, hb, u, h => by
    have hx := hb x (List.mem_cons_self ..)
    have hy := hb y (List.mem_cons_of_mem _ (List.mem_cons_self ..))
    rcases List.mem_cons.1 h with rfl | h
    · omega
    · exact words_lt r (fun z hz => hb z (List.mem_cons_of_mem _ (List.mem_cons_of_mem _ hz))) u h
theorem list16 {b : List Int} (h : b.length = 16) : ∃ b0 b1 b2 b3 b4 b5 b6 b7 b8 b9 b10 b11 b12 b13 b14 b15, b = [b0, b1, b2, b3, b4, b5, b6, b7, b8, b9, b10, b11, b12, b13, b14, b15] := by
  match b, h with
  | [b0, b1, b2, b3, b4, b5, b6, b7, b8, b9, b10, b11, b12, b13, b14, b15], _ => exact ⟨_, _, _, _, _, _, _, _, _, _, _, _, _, _, _, _, rfl⟩
theorem words_eq {b : List Int} (h : b.length = 16) : words b = (wordsOf b).map fun u => strOfNums (hexL u) := by
  obtain ⟨b0, b1, b2, b3, b4, b5, b6, b7, b8, b9, b10, b11, b12, b13, b14, b15, rfl⟩ := list16 h
  rfl
theorem wordsOf_length {b : List Int} (h : b.length = 16) : (wordsOf b).length = 8 := by
  obtain ⟨b0, b1, b2, b3, b4, b5, b6, b7, b8, b9, b10, b11, b12, b13, b14, b15, rfl⟩ := list16 h
  rfl
theorem lz8 : ∀ b0 b1 b2 b3 b4 b5 b6 b7 : Bool, ((List.range 8).all fun t => !(decide ((lzGo [b0, b1, b2, b3, b4, b5, b6, b7] 0 0 0 0).1 ≤ t) && decide (t < (lzGo [b0, b1, b2, b3, b4, b5, b6, b7] 0 0 0 0).1 + (lzGo [b0, b1, b2, b3, b4, b5, b6, b7] 0 0 0 0).2)) || [b0, b1, b2, b3, b4, b5, b6, b7].getD t false) = true := by decide +kernel
theorem list8 {α : Type} {b : List α} (h : b.length = 8) : ∃ b0 b1 b2 b3 b4 b5 b6 b7, b = [b0, b1, b2, b3, b4, b5, b6, b7] := by
  match b, h with
  | [b0, b1, b2, b3, b4, b5, b6, b7], _ => exact ⟨_, _, _, _, _, _, _, _, rfl⟩
theorem lz_zero {zs : List Bool} (h : zs.length = 8) (t : Nat) (h1 : (lzGo zs 0 0 0 0).1 ≤ t) (h2 : t < (lzGo zs 0 0 0 0).1 + (lzGo zs 0 0 0 0).2) (h3 : t < 8) : zs.getD t false = true := by
  obtain ⟨b0, b1, b2, b3, b4, b5, b6, b7, rfl⟩ := list8 h
  have := List.all_eq_true.1 (lz8 b0 b1 b2 b3 b4 b5 b6 b7) t (List.mem_range.2 h3)
  simpa [h1, h2] using this
/-- Sixteen bytes' text is read as those bytes. -/
theorem p6_text6 (b : List Int) (hb : M.Bytes b) (h16 : b.length = 16) : p6 (text6 b) = some b := by
  have hU := words_lt b hb
  have hF := flat_words b (by omega) hb
  have hL := wordsOf_length h16
  have hW := words_eq h16
  generalize wordsOf b = us at *
  have hj : ∀ vs : List Nat, joinW (vs.map fun u => strOfNums (hexL u)) = Lib.join (vs.map hexS) [58] := fun vs => by
    unfold joinW
    rw [List.map_map]
    rfl
  have hgood : ∀ vs : List Nat, ∀ w ∈ vs.map hexS, w ≠ [] ∧ 58 ∉ w := fun vs w hw => by
    obtain ⟨v, _, rfl⟩ := List.mem_map.1 hw
    exact ⟨hexS_ne v, fun hm => (hexS_chars v 58 hm).1 rfl⟩
  have hz : (us.map fun u => strOfNums (hexL u)).map isZero = us.map fun u => decide (u = 0) := by
    rw [List.map_map]
    apply List.map_congr_left
    intro u hu
    exact isZero_hex u (hU u hu)
  have hbd := lz_bd (words b)
  rw [hW, List.length_map, hL] at hbd
  unfold text6
  rw [hW]
  by_cases h2 : (lz (us.map fun u => strOfNums (hexL u))).2 < 2
  · rw [if_pos h2, hj]
    have hn := index_nocc _ (nocc_join _ (hgood us))
    have hc : Lib.cut (Lib.join (us.map hexS) [58]) [58, 58] = (Lib.join (us.map hexS) [58], [], false) := by
      unfold Lib.cut
      rw [hn, if_neg (by decide)]
    unfold p6
    rw [hc]
    simp only
    rw [gs_join us hU (by omega)]
    have hg0 : gs [] = some [] := rfl
    simp only [hg0]
    have hfl : (flat us).length = 16 := by rw [flat_length, hL]
    simp [hfl, hF, h16]
  · rw [if_neg h2]
    have hzero : ∀ t, (lz (us.map fun u => strOfNums (hexL u))).1 ≤ t → t < (lz (us.map fun u => strOfNums (hexL u))).1 + (lz (us.map fun u => strOfNums (hexL u))).2 → us.getD t 1 = 0 := fun t h1 h3 => by
      unfold lz at h1 h3 hbd
      rw [hz] at h1 h3 hbd
      have ht8 : t < 8 := by omega
      have := lz_zero (zs := us.map fun u => decide (u = 0)) (by rw [List.length_map]; exact hL) t h1 h3 ht8
      rw [List.getD_eq_getElem?_getD] at this ⊢
      rw [List.getElem?_map, List.getElem?_eq_getElem (by omega)] at this
      rw [List.getElem?_eq_getElem (by omega)]
      simpa using this
    generalize lz (us.map fun u => strOfNums (hexL u)) = r at *
    obtain ⟨A, N⟩ := r
    simp only at h2 hbd hzero
    have hsplit : us = us.take A ++ (List.replicate N 0 ++ us.drop (A + N)) := by
      apply List.ext_getElem?
      intro t
      by_cases h1 : t < A
      · rw [List.getElem?_append_left (by simp; omega), List.getElem?_take, if_pos h1]
      · rw [List.getElem?_append_right (by simp; omega)]
        have e1 : (us.take A).length = A := by simp; omega
        rw [e1]
        by_cases h3 : t < A + N
        · rw [List.getElem?_append_left (by simp; omega), List.getElem?_replicate, if_pos (by omega)]
          have := hzero t (by omega) h3
          rw [List.getD_eq_getElem?_getD, List.getElem?_eq_getElem (by omega)] at this
          rw [List.getElem?_eq_getElem (by omega)]
          simpa using this
        · rw [List.getElem?_append_right (by simp; omega), List.length_replicate, List.getElem?_drop]
          congr 1
          omega
    rw [← List.map_take, ← List.map_drop, hj, hj]
    have hn := index_cc _ (Lib.join ((us.drop (A + N)).map hexS) [58]) (nocc_join _ (hgood (us.take A)))
    have hc : Lib.cut (Lib.join ((us.take A).map hexS) [58] ++ [58, 58] ++ Lib.join ((us.drop (A + N)).map hexS) [58]) [58, 58] = (Lib.join ((us.take A).map hexS) [58], Lib.join ((us.drop (A + N)).map hexS) [58], true) := by
      have e : Lib.join ((us.take A).map hexS) [58] ++ [58, 58] ++ Lib.join ((us.drop (A + N)).map hexS) [58] = Lib.join ((us.take A).map hexS) [58] ++ 58 :: 58 :: Lib.join ((us.drop (A + N)).map hexS) [58] := by simp
      rw [e]
      unfold Lib.cut
      rw [hn, if_pos (by omega)]
      simp only [Int.toNat_natCast, List.take_left, List.length_cons, List.length_nil]
      rw [← e, show (Lib.join ((us.take A).map hexS) [58]).length + (0 + 1 + 1) = (Lib.join ((us.take A).map hexS) [58] ++ [58, 58]).length by simp, List.drop_left]
    unfold p6
    rw [hc]
    simp only
    rw [gs_join (us.take A) (fun u hu => hU u (List.mem_of_mem_take hu)) (by simp; omega), gs_join (us.drop (A + N)) (fun u hu => hU u (List.mem_of_mem_drop hu)) (by simp; omega)]
    simp only
    have f1 : (flat (us.take A)).length = 2 * A := by rw [flat_length, List.length_take, hL]; omega
    have f2 : (flat (us.drop (A + N))).length = 16 - 2 * (A + N) := by rw [flat_length, List.length_drop, hL]; omega
    rw [f1, f2, if_neg (by simp; omega)]
    congr 1
    rw [show 16 - 2 * A - (16 - 2 * (A + N)) = 2 * N by omega, ← flat_zero, List.append_assoc, ← flat_app, ← flat_app, ← hsplit, hF]
theorem mem_join (c d : UInt8) : ∀ (ws : List (List UInt8)), d ∈ Lib.join ws [c] → d = c ∨ ∃ w ∈ ws, d ∈ w
  | [], h => by rw [Lib.join_nil] at h; simp at h
  | [x], h => by rw [Lib.join_one] at h; exact .inr ⟨x, List.mem_cons_self .., h⟩
  | x :: y :: r, h => by
    rw [join_two] at h
    rcases List.mem_append.1 h with h | h
    · exact .inr ⟨x, List.mem_cons_self .., h⟩
    · rcases List.mem_cons.1 h with h | h
      · exact .inl h
      · rcases mem_join c d (y :: r) h with h | ⟨w, hw, h⟩
        · exact .inl h
        · exact .inr ⟨w, List.mem_cons_of_mem _ hw, h⟩
theorem no_dot (b : List Int) (h16 : b.length = 16) : 46 ∉ text6 b := by
  have hj : ∀ xs : List ByteArray, (∀ x ∈ xs, x ∈ words b) → 46 ∉ joinW xs := fun xs hx hm => by
    rcases mem_join 58 46 _ hm with h | ⟨w, hw, h⟩
    · exact absurd h (by decide)
    · obtain ⟨x, hxs, rfl⟩ := List.mem_map.1 hw
      have := hx x hxs
      rw [words_eq h16] at this
      obtain ⟨u, _, rfl⟩ := List.mem_map.1 this
      exact (hexS_chars u 46 h).2 rfl
  unfold text6
  split
  · exact hj _ (fun x hx => hx)
  · intro hm
    rcases List.mem_append.1 hm with hm | hm
    · rcases List.mem_append.1 hm with hm | hm
      · exact hj _ (fun x hx => List.mem_of_mem_take hx) hm
      · simp at hm
    · exact hj _ (fun x hx => List.mem_of_mem_drop hx) hm
/-- An address's text is read as that address. -/
theorem parse_text {a : Ad} (ho : a.ok) (hr : a.right = true) : parseB a.text = (a, 0) := by
  have hb : M.Bytes a.bytes := by unfold Ad.bytes; rw [if_pos hr]; exact bytesGo_bytes _ _ _
  have hl := bytes_len a
  rw [if_pos hr] at hl
  unfold Ad.text parseB
  rw [if_pos hr]
  by_cases hf : a.fam = 4
  · rw [if_pos hf] at hl ⊢
    rw [p4_text4 _ hb hl]
    exact from_bytes ho hr
  · rw [if_neg hf] at hl ⊢
    have hn : p4 (text6 a.bytes) = none := by
      unfold p4
      rw [split_none 46 _ _ (no_dot _ hl)]
      rfl
    rw [hn, p6_text6 _ hb hl]
    exact from_bytes ho hr
theorem text_unlike {a b : Ad} (ha : a.ok) (hb : b.ok) (hra : a.right = true) (hrb : b.right = true) (h : a.text = b.text) : a = b := by
  have h1 := parse_text ha hra
  have h2 := parse_text hb hrb
  rw [h, h2] at h1
  exact (Prod.mk.inj h1).1.symm
end Go.Proofs.YtjdapofjlbifjaaDoor
