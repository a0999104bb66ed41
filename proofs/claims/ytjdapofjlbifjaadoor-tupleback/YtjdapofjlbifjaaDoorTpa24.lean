/- Texts joined: AtJ -/
import Derived.Test.YtjdapofjlbifjaaDoorTpa23
namespace Go.Proofs.YtjdapofjlbifjaaDoor
set_option linter.unusedVariables false
set_option linter.unusedSimpArgs false
/-- How many zeros stand ahead. -/
def zrB : List Bool → Nat
  | [] => 0
  | z :: zs => if z = true then zrB zs + 1 else 0
/-- Where the first of the longest rows of zeros begins, and how many it has. -/
def fmB : List Bool → Nat → Int → Nat → Int × Nat
  | [], _, fr, m => (fr, m)
  | z :: zs, i, fr, m => if m < zrB (z :: zs) then fmB zs (i + 1) (i : Int) (zrB (z :: zs)) else fmB zs (i + 1) fr m
theorem zrB_le : ∀ zs : List Bool, zrB zs ≤ zs.length
  | [] => Nat.le_refl _
  | z :: zs => by
    have := zrB_le zs
    unfold zrB
    simp only [List.length_cons]
    split <;> omega
/-- The document's and the program's longest row of zeros. -/
theorem fm_lz : ∀ z0 z1 z2 z3 z4 z5 z6 z7 : Bool,
    ((lzGo [z0, z1, z2, z3, z4, z5, z6, z7] 0 0 0 0).2 < 2 → fmB [z0, z1, z2, z3, z4, z5, z6, z7] 0 (-1) 1 = (-1, 1)) ∧
    (2 ≤ (lzGo [z0, z1, z2, z3, z4, z5, z6, z7] 0 0 0 0).2 → fmB [z0, z1, z2, z3, z4, z5, z6, z7] 0 (-1) 1 = (((lzGo [z0, z1, z2, z3, z4, z5, z6, z7] 0 0 0 0).1 : Int), (lzGo [z0, z1, z2, z3, z4, z5, z6, z7] 0 0 0 0).2)) := by decide
/-- The groups, written one behind the other. -/
def ogF (g : List Nat) (fr : Int) (m : Nat) : Nat → Nat → List UInt8 → List UInt8
  | 0, _, s => s
  | f + 1, i, s => if i < g.length then
      (if (i : Int) = fr then ogF g fr m f (i + m) (s ++ [58, 58])
       else ogF g fr m f (i + 1) ((if 0 < i ∧ (fr < 0 ∨ ¬ (i : Int) = fr + m) then s ++ [58] else s) ++ hexS (g.getD i 0)))
    else s
theorem og_none (a b c d e f g h : Nat) : ogF [a, b, c, d, e, f, g, h] (-1) 1 9 0 [] = Lib.join [hexS a, hexS b, hexS c, hexS d, hexS e, hexS f, hexS g, hexS h] [58] := by
  simp [ogF, Lib.join_cons, Lib.joinTail]
theorem og_some (a b c d e f g h : Nat) (k n : Nat) (hn : 2 ≤ n) (hk : k + n ≤ 8) :
    ogF [a, b, c, d, e, f, g, h] (k : Int) n 9 0 [] = Lib.join ([hexS a, hexS b, hexS c, hexS d, hexS e, hexS f, hexS g, hexS h].take k) [58] ++ [58, 58] ++ Lib.join ([hexS a, hexS b, hexS c, hexS d, hexS e, hexS f, hexS g, hexS h].drop (k + n)) [58] := by
  have hk' : k = 0 ∨ k = 1 ∨ k = 2 ∨ k = 3 ∨ k = 4 ∨ k = 5 ∨ k = 6 := by omega
  have hn' : n = 2 ∨ n = 3 ∨ n = 4 ∨ n = 5 ∨ n = 6 ∨ n = 7 ∨ n = 8 := by omega
  rcases hk' with rfl | rfl | rfl | rfl | rfl | rfl | rfl <;> rcases hn' with rfl | rfl | rfl | rfl | rfl | rfl | rfl <;> first | omega | (simp [ogF, Lib.join_cons, Lib.joinTail, Lib.join]; done) | simp [ogF, Lib.join_cons, Lib.joinTail, Lib.join]
theorem word_lt (b : List Int) (hb : M.Bytes b) (i : Nat) : word b i < 65536 := by
  have h1 := hb.get (2 * i)
  have h2 := hb.get (2 * i + 1)
  unfold word
  omega
def gwords (b : List Int) : List Nat := [word b 0, word b 1, word b 2, word b 3, word b 4, word b 5, word b 6, word b 7]
def gzeros (b : List Int) : List Bool := (gwords b).map fun n => decide (n = 0)
theorem gtext (b : List Int) (hb : M.Bytes b) : ogF (gwords b) (fmB (gzeros b) 0 (-1) 1).1 (fmB (gzeros b) 0 (-1) 1).2 9 0 [] = text6 b := by
  have hw : words b = (gwords b).map fun n => strOfNums (hexL n) := rfl
  have hz : (words b).map isZero = gzeros b := by
    rw [hw, List.map_map]
    unfold gzeros
    refine List.map_congr_left fun n hn => ?_
    have : n < 65536 := by
      simp only [gwords, List.mem_cons, List.mem_nil_iff, or_false] at hn
      rcases hn with rfl | rfl | rfl | rfl | rfl | rfl | rfl | rfl <;> exact word_lt b hb _
    exact isZero_hex n this
  have hj : ∀ l : List Nat, joinW (l.map fun n => strOfNums (hexL n)) = Lib.join (l.map hexS) [58] := fun l => by
    unfold joinW
    rw [List.map_map]
    rfl
  have hl : lz (words b) = lzGo (gzeros b) 0 0 0 0 := by unfold lz; rw [hz]
  have key := fm_lz (decide (word b 0 = 0)) (decide (word b 1 = 0)) (decide (word b 2 = 0)) (decide (word b 3 = 0)) (decide (word b 4 = 0)) (decide (word b 5 = 0)) (decide (word b 6 = 0)) (decide (word b 7 = 0))
  rw [show [decide (word b 0 = 0), decide (word b 1 = 0), decide (word b 2 = 0), decide (word b 3 = 0), decide (word b 4 = 0), decide (word b 5 = 0), decide (word b 6 = 0), decide (word b 7 = 0)] = gzeros b from rfl] at key
  have hbd := lz_bd (words b)
  rw [hl] at hbd
  have h8 : (words b).length = 8 := rfl
  unfold text6
  rw [hl]
  generalize lzGo (gzeros b) 0 0 0 0 = P at *
  obtain ⟨k, n⟩ := P
  simp only at key hbd ⊢
  by_cases h2 : n < 2
  · rw [if_pos h2, key.1 h2, hw, hj]
    exact og_none _ _ _ _ _ _ _ _
  · rw [if_neg h2, key.2 (by omega), hw, ← List.map_take, ← List.map_drop, hj, hj, List.map_take, List.map_drop]
    exact og_some _ _ _ _ _ _ _ _ k n (by omega) (by omega)
theorem fm_bd (b : List Int) : ((fmB (gzeros b) 0 (-1) 1).1 = -1 ∧ (fmB (gzeros b) 0 (-1) 1).2 = 1) ∨ (0 ≤ (fmB (gzeros b) 0 (-1) 1).1 ∧ (fmB (gzeros b) 0 (-1) 1).1 + (fmB (gzeros b) 0 (-1) 1).2 ≤ 8 ∧ 2 ≤ (fmB (gzeros b) 0 (-1) 1).2) := by
  have key := fm_lz (decide (word b 0 = 0)) (decide (word b 1 = 0)) (decide (word b 2 = 0)) (decide (word b 3 = 0)) (decide (word b 4 = 0)) (decide (word b 5 = 0)) (decide (word b 6 = 0)) (decide (word b 7 = 0))
  rw [show [decide (word b 0 = 0), decide (word b 1 = 0), decide (word b 2 = 0), decide (word b 3 = 0), decide (word b 4 = 0), decide (word b 5 = 0), decide (word b 6 = 0), decide (word b 7 = 0)] = gzeros b from rfl] at key
  have hbd := lzGo_bd (gzeros b) 0 0 0 0 (by omega) (by omega)
  rw [show (gzeros b).length = 8 from rfl] at hbd
  generalize lzGo (gzeros b) 0 0 0 0 = P at *
  obtain ⟨k, n⟩ := P
  simp only at key hbd
  by_cases h2 : n < 2
  · left; rw [key.1 h2]; exact ⟨rfl, rfl⟩
  · right; rw [key.2 (by omega)]; exact ⟨by simp, by simp only; omega, by simp only; omega⟩
theorem join_snoc (c : UInt8) : ∀ (xs : List (List UInt8)) (y : List UInt8), Lib.join (xs ++ [y]) [c] = if xs = [] then y else Lib.join xs [c] ++ c :: y
  | [], y => by rw [List.nil_append, Lib.join_one, if_pos rfl]
  | [x], y => by rw [if_neg (by simp), Lib.join_one]; exact (join_two c x y []).trans (by rw [Lib.join_one])
  | x :: z :: r, y => by
    have ih := join_snoc c (z :: r) y
    rw [if_neg (by simp)] at ih ⊢
    rw [List.cons_append, List.cons_append, join_two, join_two, ← List.cons_append, ih]
    simp
end Go.Proofs.YtjdapofjlbifjaaDoor
