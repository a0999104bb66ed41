/- Texts joined: CkU RfR RfB CmC CmJ -/
import Derived.Test.YtmfgjicfdjjihaaGreatDoorLxa16
import Derived.Laws.Bits64b
namespace Go.Proofs.YtmfgjicfdjjihaaGreatDoor
open Go.RowKit
set_option linter.unusedVariables false
set_option linter.unusedSimpArgs false
/-- The pieces of rules, as numbers. -/
abbrev spns (l : List Rl) (d : Nat) : List Spn := l.map (·.piece d)
theorem upto_low {r : Rl} (ro : r.ok) (hr : r.right = true) (d : Nat) (hd : d < 7) (hz : r.any_ d = false) : (r.upto d).a ≤ 1000 := by
 obtain ⟨r1, r2, r3, r4, r5, r6, r7⟩ := Rl.right_all hr
 match d, hd, hz with
 | 0, _, hz => simp [Rl.upto, ptNum]
 | 1, _, hz => simp [Rl.upto, ptNum]
 | 2, _, hz => exact (lastAd_ok ro.s (net_right r3 hz)).2
 | 3, _, hz => exact (lastAd_ok ro.d (net_right r4 hz)).2
 | 4, _, hz => simp [Rl.upto, ptNum]
 | 5, _, hz => simp [Rl.upto, ptNum]
 | 6, _, hz => simp [Rl.upto, ptNum]
theorem upto_top {r : Rl} (ro : r.ok) (hr : r.right = true) (d : Nat) (hd : d < 7) : r.lst_ d = ptTop ↔ r.any_ d = true := by
 have h := piece_ok ro hr d hd
 cases hz : r.any_ d with
 | true => simp [Rl.lst_, hz]
 | false =>
  simp only [Bool.false_eq_true, iff_false]
  intro e
  rcases h.2.2 with h3 | h3
  ·have h4 := (piece_ok ro hr d hd)
   have hl : r.lst_ d = r.upto d := by simp [Rl.lst_, hz]
   have hb := upto_low ro hr d hd hz
   rw [← hl, e] at hb
   simp [ptTop] at hb
  ·rw [e] at h3
   simp [ptTop] at h3
theorem pt0_n : pt0.n = 0 := by simp [pt0, Pt.n]
theorem cut_starts {l : List Rl} {d : Nat} {L : List Pt} (hl : ∀ r ∈ l, r.ok ∧ r.right = true) (hd : d < 7) (hs : L.Pairwise fun p q => p.n < q.n) (hm : ∀ p, p ∈ L ↔ p ∈ rawC (pcs l d)) : L.map Pt.n = startsL (spns l d) ∧ ∀ p ∈ L, p.ok := by
 refine ⟨insS_nodup_unique (List.pairwise_map.2 hs) (starts_sorted _) (fun z => ?_), fun p hp => raw_ok (l := pcs l d) (fun q hq => ?_) (fun q hq => ?_) p ((hm p).1 hp)⟩
 ·rw [starts_iff, List.mem_map]
  constructor
  ·rintro ⟨p, hp, rfl⟩
   have hp' := (hm p).1 hp
   unfold rawC at hp'
   rcases List.mem_cons.1 hp' with rfl | hp'
   ·exact .inl pt0_n
   ·obtain ⟨q, hq, hp'⟩ := List.mem_flatMap.1 hp'
    unfold pcs at hq
    obtain ⟨r, hr, rfl⟩ := List.mem_map.1 hq
    obtain ⟨ro, hrr⟩ := hl r hr
    have hpo := piece_ok ro hrr d hd
    have ht := upto_top ro hrr d hd
    unfold rawS at hp'
    cases hz : r.any_ d with
    | true =>
     rw [if_pos (ht.2 hz)] at hp'
     simp only [List.mem_singleton] at hp'
     subst hp'
     left
     simp [Rl.fst_, hz, pt0_n]
    | false =>
     have hne : ¬ r.lst_ d = ptTop := fun e => by rw [ht.1 e] at hz; cases hz
     simp only [hne, if_false, List.mem_cons, List.not_mem_nil, or_false] at hp'
     refine .inr ⟨r.piece d, List.mem_map.2 ⟨r, hr, rfl⟩, hz, ?_⟩
     rcases hp' with rfl | rfl
     ·left
      simp [Rl.fst_, hz, Rl.piece]
     ·right
      rw [Pt.next_n hpo.2.1]
      simp [Rl.lst_, hz, Rl.piece]
  ·rintro (rfl | ⟨sp, hsp, ha, hz⟩)
   ·exact ⟨pt0, (hm pt0).2 (by simp [rawC]), pt0_n⟩
   ·obtain ⟨r, hr, rfl⟩ := List.mem_map.1 hsp
    obtain ⟨ro, hrr⟩ := hl r hr
    have hpo := piece_ok ro hrr d hd
    have ht := upto_top ro hrr d hd
    have hz' : r.any_ d = false := ha
    have hne : ¬ r.lst_ d = ptTop := fun e => by rw [ht.1 e] at hz'; cases hz'
    have hmem : ∀ p, p ∈ rawS (r.fst_ d, r.lst_ d) → p ∈ L := fun p hp => (hm p).2 (by
     unfold rawC pcs
     exact List.mem_cons_of_mem _ (List.mem_flatMap.2 ⟨_, List.mem_map.2 ⟨r, hr, rfl⟩, hp⟩))
    rcases hz with rfl | rfl
    ·refine ⟨r.fst_ d, hmem _ (by simp [rawS]), ?_⟩
     simp [Rl.fst_, hz', Rl.piece]
    ·refine ⟨(r.lst_ d).next, hmem _ (by simp [rawS, hne]), ?_⟩
     rw [Pt.next_n hpo.2.1]
     simp [Rl.lst_, hz', Rl.piece]
 ·unfold pcs at hq
  obtain ⟨r, hr, rfl⟩ := List.mem_map.1 hq
  have := piece_ok (hl r hr).1 (hl r hr).2 d hd
  exact ⟨this.1, this.2.1⟩
 ·unfold pcs at hq
  obtain ⟨r, hr, rfl⟩ := List.mem_map.1 hq
  exact (piece_ok (hl r hr).1 (hl r hr).2 d hd).2.2
theorem ord_le {p q : Pt} (hp : p.ok) (hq : q.ok) : decide (ordP p q ≤ 0) = decide (p.n ≤ q.n) := by
 have := ord_pos hp hq
 rw [Bool.eq_iff_iff, decide_eq_true_eq, decide_eq_true_eq]
 omega
theorem hold_piece {r : Rl} (ro : r.ok) (hr : r.right = true) {d : Nat} (hd : d < 7) {x : Pt} (hx : x.ok) : holdB (r.fst_ d) (r.lst_ d) x = (r.piece d).holds x.n := by
 have hpo := piece_ok ro hr d hd
 unfold holdB Spn.holds
 rw [ord_le hpo.1 hx, ord_le hx hpo.2.1]
 cases hz : r.any_ d with
 | true =>
  have h1 := Pt.low hx
  have h2 := Pt.high hx
  simp [Rl.fst_, Rl.lst_, Rl.piece, hz, h1, h2]
 | false => simp [Rl.fst_, Rl.lst_, Rl.piece, hz]
theorem cut_set {l : List Rl} {d : Nat} (hl : ∀ r ∈ l, r.ok ∧ r.right = true) (hd : d < 7) {x : Pt} (hx : x.ok) : hset (pcs l d) x = setOf (spns l d) x.n := by
 unfold hset hsN setOf
 rw [show (pcs l d).length = (spns l d).length by simp [pcs, spns]]
 apply List.filter_congr
 intro i hi
 have hi' : i < l.length := by simpa [spns] using hi
 have hr := List.getElem_mem hi'
 simp only [pcs, spns, List.getElem?_map, List.getElem?_eq_getElem hi', Option.map_some, Option.getD_some]
 exact hold_piece (hl _ hr).1 (hl _ hr).2 hd hx
theorem cut_rows {l : List Rl} {d : Nat} {L : List Pt} (hl : ∀ r ∈ l, r.ok ∧ r.right = true) (hd : d < 7) (hn : L.map Pt.n = startsL (spns l d)) (hok : ∀ p ∈ L, p.ok) : L.map (hset (pcs l d)) = rowL (spns l d) := by
 unfold rowL
 rw [← hn, List.map_map]
 apply List.map_congr_left
 intro x hx
 exact cut_set hl hd (hok x hx)
theorem rise_ints {s : List Nat} (h : s.Pairwise (· < ·)) : RiseI (ints s) := by
 refine ⟨fun x hx => ?_, fun i x y hx hy => ?_⟩
 ·rw [List.getElem?_map, Option.map_eq_some_iff] at hx
  obtain ⟨n, _, rfl⟩ := hx
  omega
 ·rw [List.getElem?_map, Option.map_eq_some_iff] at hx hy
  obtain ⟨n, hn, rfl⟩ := hx
  obtain ⟨m, hm, rfl⟩ := hy
  obtain ⟨h1, h2⟩ := List.getElem?_eq_some_iff.1 hn
  obtain ⟨h3, h4⟩ := List.getElem?_eq_some_iff.1 hm
  have := List.pairwise_iff_getElem.1 h i (i + 1) h1 h3 (by omega)
  rw [h2, h4] at this
  omega
theorem cut_right {l : List Rl} {d : Nat} {L : List Pt} (hl : ∀ r ∈ l, r.ok ∧ r.right = true) (hd : d < 7) (hs : L.Pairwise fun p q => p.n < q.n) (hn : L.map Pt.n = startsL (spns l d)) (hok : ∀ p ∈ L, p.ok) : RightC L (ints (classL (rowL (spns l d)))) ((setsL (rowL (spns l d))).map ints) := by
 have hlen : L.length = (startsL (spns l d)).length := by rw [← hn, List.length_map]
 refine ⟨?_, fun i p q hp hq => ?_, ?_, fun x hx => ?_, fun s hs' => ?_⟩
 ·have h0 := starts_head (pieces_ok hl d)
  rw [show l.map (·.piece d) = spns l d from rfl, ← hn, List.getElem?_map, Option.map_eq_some_iff] at h0
  obtain ⟨p, hp, he⟩ := h0
  rw [hp, Pt.n_inj (hok p (List.mem_of_getElem? hp)) pt0_ok (by rw [he, pt0_n])]
 ·obtain ⟨h1, h2⟩ := List.getElem?_eq_some_iff.1 hp
  obtain ⟨h3, h4⟩ := List.getElem?_eq_some_iff.1 hq
  have := List.pairwise_iff_getElem.1 hs i (i + 1) h1 h3 (by omega)
  rw [h2, h4] at this
  exact this
 ·rw [List.length_map, class_len, rowL, List.length_map, hlen]
 ·obtain ⟨n, hn', rfl⟩ := List.mem_map.1 hx
  have := class_lt hn'
  rw [List.length_map]
  omega
 ·obtain ⟨t, ht, rfl⟩ := List.mem_map.1 hs'
  have h1 := sets_mem ht
  unfold rowL at h1
  obtain ⟨z, _, rfl⟩ := List.mem_map.1 h1
  exact rise_ints (setOf_sorted _ _)
end Go.Proofs.YtmfgjicfdjjihaaGreatDoor
namespace Go.Proofs.YtmfgjicfdjjihaaGreatDoor
set_option linter.unusedVariables false
set_option linter.unusedSimpArgs false
/-- A list of sets that may be. -/
def Rs2 (A : List (List Nat)) : Prop := ∀ s ∈ A, Rs s
theorem sorted_len : ∀ (s : List Nat) (m n : Nat), s.Pairwise (· < ·) → (∀ i ∈ s, m ≤ i ∧ i < n) → s.length ≤ n - m
 | [], _, _, _, _ => Nat.zero_le _
 | x :: s, m, n, h, hb => by
  have h' := List.pairwise_cons.1 h
  have hx := hb x List.mem_cons_self
  have := sorted_len s (x + 1) n h'.2 (fun i hi => ⟨h'.1 i hi, (hb i (List.mem_cons_of_mem _ hi)).2⟩)
  rw [List.length_cons]
  omega
theorem rs_len {s : List Nat} (hs : Rs s) : s.length ≤ 64 := by
 have := sorted_len s 0 64 hs.1 (fun i hi => ⟨Nat.zero_le _, hs.2 i hi⟩)
 omega
theorem cross_rs {A B : List (List Nat)} (hA : Rs2 A) (hB : Rs2 B) : Rs2 (crossL A B) := by
 intro s hs
 unfold crossL at hs
 obtain ⟨a, ha, h⟩ := List.mem_flatMap.1 hs
 obtain ⟨b, hb, rfl⟩ := List.mem_map.1 h
 exact both_rs (hA a ha) (hB b hb)
theorem sets_rs {L : List (List Nat)} (h : Rs2 L) : Rs2 (setsL L) := fun s hs => h s (sets_mem hs)
/-- Sets put one behind the other. -/
theorem sets_snoc (L : List (List Nat)) (s : List Nat) : setsL (L ++ [s]) = putS (setsL L) s := by unfold setsL; rw [List.foldl_append]; rfl
theorem class_snoc (L : List (List Nat)) (s : List Nat) : classL (L ++ [s]) = classL L ++ [putN (setsL L) s] := classF_snoc L [] s
/-- A number among numbers is its set among sets. -/
theorem bits_find {S : List (List Nat)} {s : List Nat} (hS : Rs2 S) (hs : Rs s) : (S.map bitsN).findIdx? (· == bitsN s) = S.findIdx? (· == s) := by
 rw [List.findIdx?_map]
 induction S with
 | nil => rfl
 | cons t S ih =>
  have ih := ih (fun u hu => hS u (List.mem_cons_of_mem _ hu))
  rw [List.findIdx?_cons, List.findIdx?_cons, ih]
  have e : (((fun x => x == bitsN s) ∘ bitsN) t) = (t == s) := by
   simp only [Function.comp]
   rw [Bool.eq_iff_iff]
   simp only [beq_iff_eq]
   exact ⟨fun h => bits_inj (hS t List.mem_cons_self) hs h, fun h => by rw [h]⟩
  rw [e]
theorem put_some {S : List (List Nat)} {s : List Nat} {i : Nat} (h : S.findIdx? (· == s) = some i) : putN S s = i ∧ putS S s = S := by
 unfold putN putS
 rw [h]
 obtain ⟨h1, h2, _⟩ := List.findIdx?_eq_some_iff_getElem.1 h
 refine ⟨rfl, ?_⟩
 rw [if_pos (List.any_eq_true.2 ⟨S[i], List.getElem_mem h1, h2⟩)]
theorem put_none {S : List (List Nat)} {s : List Nat} (h : S.findIdx? (· == s) = none) : putN S s = S.length ∧ putS S s = S ++ [s] := by
 unfold putN putS
 rw [h]
 refine ⟨rfl, ?_⟩
 rw [if_neg]
 intro ha
 obtain ⟨t, ht, h2⟩ := List.any_eq_true.1 ha
 have := List.findIdx?_eq_none_iff.1 h t ht
 rw [h2] at this
 cases this
/-- The cross as far as the class k of the row i. -/
theorem cross_take {A B : List (List Nat)} {i k : Nat} {s t : List Nat} (h : A[i]? = some s) (ht : B[k]? = some t) : (crossL A B).take (i * B.length + k + 1) = (crossL A B).take (i * B.length + k) ++ [bothL s t] := by
 rw [List.take_add_one, cross_get A B i k s t h ht]
 rfl
theorem setOf_rs (l : List Rl) (d : Nat) (hl : l.length ≤ 64) (x : Int) : Rs (setOf (spns l d) x) := by
 refine ⟨setOf_sorted _ _, fun i hi => ?_⟩
 have h1 := List.mem_range.1 (List.mem_filter.1 hi).1
 rw [spns, List.length_map] at h1
 omega
/-- The sets of a dimension. -/
def setsD (l : List Rl) (d : Nat) : List (List Nat) := setsL (rowL (spns l d))
theorem setsD_rs (l : List Rl) (d : Nat) (hl : l.length ≤ 64) : Rs2 (setsD l d) := sets_rs fun s hs => by
 obtain ⟨x, _, rfl⟩ := List.mem_map.1 hs
 exact setOf_rs l d hl x
def lenD (l : List Rl) (d : Nat) : Nat := (startsL (spns l d)).length
theorem setsD_len (l : List Rl) (d : Nat) : (setsD l d).length ≤ lenD l d := by
 have : (setsL (rowL (spns l d))).length ≤ (rowL (spns l d)).length := sets_len _
 rw [show (rowL (spns l d)).length = lenD l d by unfold rowL lenD; rw [List.length_map]] at this
 exact this
/-- The two sides of a cross. -/
def sdL (n : Nat) : Nat := [0, 2, 5, 8, 10, 11].getD n 0
def sdR (n : Nat) : Nat := [1, 3, 6, 9, 4, 7].getD n 0
theorem sd_lt : ∀ n, n < 6 → sdL n < 7 + n ∧ sdR n < 7 + n := by decide
/-- The sets of the dimensions and of the first n crosses. -/
def clsN (l : List Rl) : Nat → List (List (List Nat))
 | 0 => (List.range 7).map (setsD l)
 | n + 1 => clsN l n ++ [setsL (crossL ((clsN l n).getD (sdL n) []) ((clsN l n).getD (sdR n) []))]
def sA (l : List Rl) (n : Nat) : List (List Nat) := (clsN l n).getD (sdL n) []
def sB (l : List Rl) (n : Nat) : List (List Nat) := (clsN l n).getD (sdR n) []
theorem cls_succ (l : List Rl) (n : Nat) : clsN l (n + 1) = clsN l n ++ [setsL (crossL (sA l n) (sB l n))] := rfl
theorem cls_len (l : List Rl) : ∀ n, (clsN l n).length = 7 + n
 | 0 => by simp [clsN]
 | n + 1 => by rw [cls_succ, List.length_append, cls_len l n]; simp; omega
theorem cls_L (l : List Rl) {n : Nat} (h : n < 6) : (clsN l n)[sdL n]? = some (sA l n) := by
 have h1 : sdL n < (clsN l n).length := by rw [cls_len]; exact (sd_lt n h).1
 unfold sA
 rw [List.getD_eq_getElem?_getD, List.getElem?_eq_getElem h1]; rfl
theorem cls_R (l : List Rl) {n : Nat} (h : n < 6) : (clsN l n)[sdR n]? = some (sB l n) := by
 have h1 : sdR n < (clsN l n).length := by rw [cls_len]; exact (sd_lt n h).2
 unfold sB
 rw [List.getD_eq_getElem?_getD, List.getElem?_eq_getElem h1]; rfl
theorem cls_rs (l : List Rl) (hl : l.length ≤ 64) : ∀ n, n ≤ 6 → ∀ A ∈ clsN l n, Rs2 A
 | 0, _ => fun A hA => by
  obtain ⟨d, _, rfl⟩ := List.mem_map.1 hA
  exact setsD_rs l d hl
 | n + 1, hn => fun A hA => by
  rw [cls_succ] at hA
  rcases List.mem_append.1 hA with h | h
  ·exact cls_rs l hl n (by omega) A h
  ·rw [List.mem_singleton.1 h]
   exact sets_rs (cross_rs (cls_rs l hl n (by omega) _ (List.mem_of_getElem? (cls_L l (by omega)))) (cls_rs l hl n (by omega) _ (List.mem_of_getElem? (cls_R l (by omega)))))
/-- The cost, as far as n crosses. -/
def costD (l : List Rl) : Nat → Nat
 | 0 => 0
 | d + 1 => costD l d + lenD l d
def costN (l : List Rl) : Nat → Nat
 | 0 => costD l 7
 | n + 1 => costN l n + (sA l n).length * (sB l n).length
theorem cost_le (l : List Rl) : ∀ n m, n ≤ m → costN l n ≤ costN l m
 | n, 0, h => by rw [show n = 0 by omega]; exact Nat.le_refl _
 | n, m + 1, h => by
  by_cases e : n = m + 1
  ·rw [e]; exact Nat.le_refl _
  ·have := cost_le l n m (by omega)
   show costN l n ≤ costN l m + _
   omega
theorem costD_le (l : List Rl) : ∀ d m, d < m → lenD l d ≤ costD l m
 | d, 0, h => by omega
 | d, m + 1, h => by
  by_cases e : d = m
  ·subst e; show _ ≤ costD l d + lenD l d; omega
  ·have := costD_le l d m (by omega)
   show _ ≤ costD l m + lenD l m
   omega
/-- No side has more sets than the cost. -/
theorem cls_le (l : List Rl) : ∀ n, ∀ A ∈ clsN l n, A.length ≤ costN l n
 | 0 => fun A hA => by
  obtain ⟨d, hd, rfl⟩ := List.mem_map.1 hA
  have h1 := setsD_len l d
  have h2 := costD_le l d 7 (List.mem_range.1 hd)
  show _ ≤ costD l 7
  omega
 | n + 1 => fun A hA => by
  rw [cls_succ] at hA
  rcases List.mem_append.1 hA with h | h
  ·have := cls_le l n A h
   have := cost_le l n (n + 1) (by omega)
   omega
  ·rw [List.mem_singleton.1 h]
   have h1 : (setsL (crossL (sA l n) (sB l n))).length ≤ (crossL (sA l n) (sB l n)).length := sets_len _
   rw [cross_len] at h1
   show _ ≤ costN l n + _
   omega
theorem costD_bound (l : List Rl) (hl : l.length ≤ 64) : ∀ d, costD l d ≤ d * 129
 | 0 => by simp [costD]
 | d + 1 => by
  have h1 := costD_bound l hl d
  have h2 := starts_len (spns l d)
  rw [spns, List.length_map] at h2
  show costD l d + lenD l d ≤ _
  unfold lenD
  rw [spns]
  omega
/-- The error of Compile. -/
def errT (l : List Rl) (e0 : Int) (budget : Int) : Int := if 0 ≤ budget ∧ budget ≤ 4096 then (if e0 ≠ 0 then e0 else if budget < (costN l 6 : Int) then 18 else 0) else 1
end Go.Proofs.YtmfgjicfdjjihaaGreatDoor
namespace Go.Proofs.YtmfgjicfdjjihaaGreatDoor
open Go.RowKit
set_option linter.unusedVariables false
set_option linter.unusedSimpArgs false
/-- The table of the lowest bits. -/
def debT : List Nat := [0, 1, 56, 2, 57, 49, 28, 3, 61, 58, 42, 50, 38, 29, 17, 4, 62, 47, 59, 36, 45, 43, 51, 22, 53, 39, 33, 30, 24, 18, 12, 5, 63, 55, 48, 27, 60, 41, 37, 16, 46, 35, 44, 21, 52, 32, 23, 11, 54, 26, 40, 15, 34, 20, 31, 10, 25, 14, 19, 9, 13, 8, 7, 6]
def debV : Array Value := (debT.map fun n : Nat => Value.int .u8 (n : Int)).toArray
def Deb (w : World) : Prop := CellsAt w 3 0 debV
theorem Deb.below {w w' : World} (h : Deb w) (hb : Below w.heap.size w w') : Deb w' := CellsAt.below h hb
def debI (i : Nat) : Nat := 2 ^ i * 285870213051353865 % 18446744073709551616 / 288230376151711744
theorem deb_at : ∀ i, i < 64 → debI i < 64 ∧ debT[debI i]? = some i := by decide +kernel
theorem Deb.cell {w : World} (h : Deb w) {i : Nat} (hi : i < 64) : w.cell? ⟨3, debI i, none⟩ = some (.int .u8 (i : Int)) := by
 have := h.2 (debI i) (.int .u8 (i : Int)) (by unfold debV; rw [List.getElem?_toArray, List.getElem?_map, (deb_at i hi).2]; rfl)
 rwa [Nat.zero_add] at this
theorem low_key (i : Nat) (r : List Nat) (hs : Rs (i :: r)) :
  IntKind.u64.wrap (bits BinOp.and IntKind.u64 (bitsN (i :: r) : Int) (IntKind.u64.wrap (-(bitsN (i :: r) : Int))) * 285870213051353865) / 288230376151711744 = ((debI i : Nat) : Int) := by
 have hb := bits_lt hs.2
 have h0 : bitsN (i :: r) ≠ 0 := fun e => by cases bits_zero e
 have hl := bits_low hs
 obtain ⟨x, hx⟩ : ∃ x, bitsN (i :: r) = x := ⟨_, rfl⟩
 rw [hx] at hb h0 hl ⊢
 have e1 : IntKind.u64.wrap (-(x : Int)) = ((18446744073709551616 - x : Nat) : Int) := by rw [IntKind.wrap_u64]; omega
 rw [e1, bits_and_u64_nat x _ hb (by omega), hl, IntKind.wrap_u64]
 unfold debI
 obtain ⟨y, hy⟩ : ∃ y, 2 ^ i = y := ⟨_, rfl⟩
 rw [hy]
 omega
set_option maxHeartbeats 1000000 in
theorem tz_any (i : Nat) (r : List Nat) (hs : Rs (i :: r)) (w : World) (hd : Deb w) :
  Calls Tryz.prog 69 #[.int .u64 (bitsN (i :: r) : Int)] w fun e w' => e = .returned (.int .i64 (i : Int)) ∧ Below w.heap.size w w' := by
 have hi : i < 64 := hs.2 i (by simp)
 have key := low_key i r hs
 have hc := hd.cell hi
 have hk := (deb_at i hi).1
 have h0 : ((bitsN (i :: r) : Int) == 0) = false := by
  have : bitsN (i :: r) ≠ 0 := fun e => by cases bits_zero e
  simp; omega
 obtain ⟨x, hx⟩ : ∃ x, bitsN (i :: r) = x := ⟨_, rfl⟩
 obtain ⟨y, hy⟩ : ∃ y, debI i = y := ⟨_, rfl⟩
 rw [hx] at key h0 ⊢
 rw [hy] at key hc hk
 clear hx hy hd hs
 go_enter Tryz.func69, Tryz.ntmps69
 go_wp2_with (simp only [key])
 go_ret
 exact ⟨rfl, Below.refl _ _⟩
set_option maxHeartbeats 1000000 in
theorem least_any (s : List Nat) (hs : Rs s) (w : World) (hd : Deb w) :
  Calls Tryz.prog 39 #[.int .u64 (bitsN s : Int)] w fun e w' => e = .returned (.int .i64 (firstN s)) ∧ Below w.heap.size w w' := by
 cases s with
 | nil =>
  rw [bits_nil]
  go_enter Tryz.func39, Tryz.ntmps39
  go_wp2
  go_ret
  exact ⟨rfl, Below.refl _ _⟩
 | cons i r =>
  have K : Hid _ := tz_any i r hs w hd
  have h0 : ((bitsN (i :: r) : Int) == 0) = false := by
   have : bitsN (i :: r) ≠ 0 := fun e => by cases bits_zero e
   simp; omega
  obtain ⟨x, hx⟩ : ∃ x, bitsN (i :: r) = x := ⟨_, rfl⟩
  rw [hx] at K h0 ⊢
  show Calls _ _ _ _ fun e w' => e = .returned (.int .i64 (i : Int)) ∧ Below w.heap.size w w'
  clear hx hd hs
  go_enter Tryz.func39, Tryz.ntmps39
  go_wp2_with fail
  refine Calls.mono K.out ?_
  rintro e w' ⟨rfl, b⟩
  go_wp2
  go_ret
  exact ⟨rfl, b⟩
set_option maxRecDepth 100000 in
set_option maxHeartbeats 4000000 in
theorem places_any (s : List Nat) (hs : Rs s) (w : World) (hd : Deb w) :
  Calls Tryz.prog 68 #[.int .u64 (bitsN s : Int)] w fun e w' => ∃ a c, e = .returned (.slice a s.length c) ∧ OwnI w' w.heap.size a c s ∧ Below w.heap.size w w' := by
 have hlen : s.length ≤ 64 := rs_len hs
 have HD : Hid (Deb w) := hd
 have HS : Hid (Rs s) := hs
 have KL : Hid (∀ t, Rs t → ∀ W, Deb W → Calls Tryz.prog 39 #[.int .u64 (bitsN t : Int)] W fun e w' => e = .returned (.int .i64 (firstN t)) ∧ Below W.heap.size W w') := fun t ht W hW => least_any t ht W hW
 obtain ⟨N, hN⟩ : ∃ N, s.length = N := ⟨_, rfl⟩
 have HN : Hid (s.length = N) := hN
 rw [hN] at hlen ⊢
 obtain ⟨X, hX⟩ : ∃ X, bitsN s = X := ⟨_, rfl⟩
 have HX : Hid (bitsN s = X) := hX
 rw [hX]
 clear hX hN hd hs
 go_enter Tryz.func68, Tryz.ntmps68
 go_wp2_with fail
 go_loopw [0, 3] (fun x li wr => ∃ (n : Nat) (a : Option Addr) (c : Nat), n ≤ N ∧ x = .int .u64 (bitsN (s.drop n) : Int) ∧ li = .slice a n c ∧ Hid (OwnI wr w.heap.size a c (s.take n)) ∧ Below w.heap.size w wr) (fun x _ _ => (intOf x).toNat)
 case atStart => exact ⟨0, none, 0, Nat.zero_le _, by rw [List.drop_zero, HX.out], rfl, OwnI.nil _ _, Below.refl _ _⟩
 case round =>
  obtain ⟨n, a, c, hn, rfl, rfl, HO, bw⟩ := hrel
  by_cases hlt : n < N
  ·obtain ⟨i, hi⟩ : ∃ i, s[n]? = some i := ⟨_, List.getElem?_eq_getElem (by rw [HN.out]; exact hlt)⟩
   have hdrop : s.drop n = i :: s.drop (n + 1) := by
    obtain ⟨h1, h2⟩ := List.getElem?_eq_some_iff.1 hi
    rw [List.drop_eq_getElem_cons h1, h2]
   have htake : s.take (n + 1) = s.take n ++ [i] := by rw [List.take_add_one, hi]; rfl
   have hT : Rs (i :: s.drop (n + 1)) := by
    rw [← hdrop]
    exact ⟨HS.out.1.sublist (List.drop_sublist n s), fun j hj => HS.out.2 j (List.mem_of_mem_drop hj)⟩
   have htl := bits_tail hT.1
   have hlt64 := bits_lt hT.2
   have hne : bitsN (i :: s.drop (n + 1)) ≠ 0 := fun e => by cases bits_zero e
   have K : Hid (Calls Tryz.prog 39 #[.int .u64 (bitsN (i :: s.drop (n + 1)) : Int)] wr fun e w' => e = .returned (.int .i64 (i : Int)) ∧ Below wr.heap.size wr w') := KL.out _ hT wr (HD.out.below bw)
   have hdec : bitsN (s.drop (n + 1)) < bitsN (i :: s.drop (n + 1)) := by
    obtain ⟨z, h1, h2⟩ := bits_cons hT.1
    have := Nat.two_pow_pos i
    omega
   rw [hdrop]
   obtain ⟨X', hX'⟩ : ∃ X', bitsN (i :: s.drop (n + 1)) = X' := ⟨_, rfl⟩
   obtain ⟨Y, hY⟩ : ∃ Y, bitsN (s.drop (n + 1)) = Y := ⟨_, rfl⟩
   have HY : Hid (bitsN (s.drop (n + 1)) = Y) := hY
   rw [hX', hY] at htl hdec
   rw [hX'] at hlt64 hne K ⊢
   have h0 : ((X' : Int) == 0) = false := by simp; omega
   have h0' : ((X' : Int) != 0) = true := by simp; omega
   have hx1 : (1 : Int) ≤ (X' : Int) := by omega
   have hx2 : (X' : Int) ≤ 18446744073709551615 := by omega
   have hwr : IntKind.u64.wrap ((X' : Int) - 1) = (X' : Int) - 1 := by rw [IntKind.wrap_u64]; omega
   have hand : bits BinOp.and IntKind.u64 (X' : Int) ((X' : Int) - 1) = (Y : Int) := by
    rw [show (X' : Int) - 1 = ((X' - 1 : Nat) : Int) by omega, bits_and_u64_nat X' _ hlt64 (by omega), htl]
   have HTK : Hid (s.take (n + 1) = s.take n ++ [i]) := htake
   have HDC : Hid (Y < X') := hdec
   have hlen' : (s.take n).length = n := by rw [List.length_take, HN.out]; omega
   have HLN : Hid ((s.take n).length = n) := hlen'
   clear hX' hY htl hdec hdrop htake hi hT hlen' hne
   go_wp2_with fail
   refine Calls.mono K.out ?_
   rintro e W2 ⟨rfl, b2⟩
   have bw2 := bel_tr bw b2
   obtain ⟨W3, hW3⟩ : ∃ W3, W2.alloc (.cells #[.int .i64 (i : Int)] 3) = W3 := ⟨_, rfl⟩
   have b23 := bel_nw hW3
   have bw3 := bel_tr bw2 b23
   obtain ⟨g, c', W4, hrun, ho, hg, hat, hb⟩ := run_appI1 W3 24 w.heap.size a c (s.take n) (HO.out.below (bel_tr b2 b23)) W2.heap.size 1 i 3 (blk_nw hW3) (by rw [HLN.out]; omega) bw3.size
   rw [HLN.out] at hrun
   rw [← HTK.out] at ho
   have HO4 : Hid (OwnI W4 w.heap.size (some ⟨g, 0, none⟩) c' (s.take (n + 1))) := ho
   have bw4 : Below w.heap.size w W4 := bw3.trans hb
   have HR : Hid _ := hrun
   clear ho hg hat hb hrun bw2 bw3 b2 b23 K
   go_wp2_with (refine wpList_rn rfl 24 _ _ rfl _ _ rfl rfl _ _ HR.out ?_)
   exact ⟨⟨n + 1, some ⟨g, 0, none⟩, c', by omega, by rw [HY.out], rfl, HO4, bw4⟩, by simp only [intOf]; have := HDC.out; omega⟩
  ·have hn' : n = N := by omega
   have hz : s.drop n = [] := List.drop_eq_nil_of_le (by rw [HN.out]; omega)
   have ht : s.take n = s := List.take_of_length_le (by rw [HN.out]; omega)
   rw [hz, bits_nil]
   have HO' : Hid (OwnI wr w.heap.size a c s) := by have := HO.out; rw [ht] at this; exact this
   subst hn'
   clear hz ht HO
   go_wp2
   go_ret
   exact ⟨a, c, rfl, HO'.out, bw⟩
set_option maxRecDepth 100000 in
set_option maxHeartbeats 8000000 in
theorem less_ck (p q : Pt) (w : World) : Calls Tryz.prog 54 #[.agg p.v, .agg q.v] w fun e w' => e = .returned (.bool (p.less q)) ∧ Below w.heap.size w w' := by
 obtain ⟨a, b, c⟩ := p
 obtain ⟨a', b', c'⟩ := q
 obtain ⟨W1, hW1⟩ : ∃ W1, w.alloc (.cells (Pt.v ⟨a, b, c⟩) 86) = W1 := ⟨_, rfl⟩
 obtain ⟨W2, hW2⟩ : ∃ W2, W1.alloc (.cells (Pt.v ⟨a', b', c'⟩) 86) = W2 := ⟨_, rfl⟩
 have b2 := bel_al (bel_nw hW1) hW2
 have B1 := (blk_nw hW1).al hW2
 have B2 := blk_nw hW2
 have p0 := B1.cell 0 (.int .u64 a) rfl
 have p1 := B1.cell 1 (.int .u64 b) rfl
 have p2 := B1.cell 2 (.int .u64 c) rfl
 have q0 := B2.cell 0 (.int .u64 a') rfl
 have q1 := B2.cell 1 (.int .u64 b') rfl
 have q2 := B2.cell 2 (.int .u64 c') rfl
 clear B1 B2
 obtain ⟨R, hR⟩ : ∃ R, (⟨a, b, c⟩ : Pt).less ⟨a', b', c'⟩ = R := ⟨_, rfl⟩
 rw [hR]
 have HR : Hid ((⟨a, b, c⟩ : Pt).less ⟨a', b', c'⟩ = R) := hR
 clear hR
 rcases Int.lt_trichotomy a a' with h | h | h
 ·have eR : R = true := by rw [← HR.out]; simp [Pt.less, h]
  subst eR
  go_enter Tryz.func54, Tryz.ntmps54
  go_wp2
  go_ret
  exact ⟨rfl, b2⟩
 ·subst h
  have h0 : ¬ a < a := by omega
  rcases Int.lt_trichotomy b b' with h | h | h
  ·have eR : R = true := by rw [← HR.out]; simp [Pt.less, h]
   subst eR
   go_enter Tryz.func54, Tryz.ntmps54
   go_wp2
   go_ret
   exact ⟨rfl, b2⟩
  ·subst h
   have h1 : ¬ b < b := by omega
   by_cases h : c < c'
   ·have eR : R = true := by rw [← HR.out]; simp [Pt.less, h]
    subst eR
    go_enter Tryz.func54, Tryz.ntmps54
    go_wp2
    go_ret
    exact ⟨rfl, b2⟩
   ·have eR : R = false := by rw [← HR.out]; simp [Pt.less]; omega
    subst eR
    go_enter Tryz.func54, Tryz.ntmps54
    go_wp2
    go_ret
    exact ⟨rfl, b2⟩
  ·have h1 : ¬ b < b' := by omega
   have h2 : (b == b') = false := by rw [beq_eq_false_iff_ne]; omega
   have eR : R = false := by rw [← HR.out]; simp [Pt.less, h2]; omega
   subst eR
   go_enter Tryz.func54, Tryz.ntmps54
   go_wp2
   go_ret
   exact ⟨rfl, b2⟩
 ·have h1 : ¬ a < a' := by omega
  have h2 : (a == a') = false := by rw [beq_eq_false_iff_ne]; omega
  have eR : R = false := by rw [← HR.out]; simp [Pt.less, h2]; omega
  subst eR
  go_enter Tryz.func54, Tryz.ntmps54
  go_wp2
  go_ret
  exact ⟨rfl, b2⟩
set_option maxRecDepth 100000 in
set_option maxHeartbeats 4000000 in
theorem rrising_any (a : Option Addr) (c : Nat) (l : List Int) (w : World) (h : RowI w a l) :
  Calls Tryz.prog 28 #[.slice a l.length c] w fun e w' => Tells e (RiseI l) ∧ Below w.heap.size w w' := by
 have hs := h.small
 obtain ⟨N, hN⟩ : ∃ N, l.length = N := ⟨_, rfl⟩
 have HN : Hid (l.length = N) := hN
 have HR : Hid (RowI w a l) := h
 rw [hN] at hs ⊢
 clear h hN
 go_enter Tryz.func28, Tryz.ntmps28
 go_wp2_with fail
 go_loopw [3] (fun i wr => ∃ (k m : Nat), k ≤ N ∧ i = .int .i64 k ∧ wr = w.drewN m ∧ Hid (∀ (j : Nat) (x : Int), j < k → l[j]? = some x → 0 ≤ x ∧ ∀ y, 0 < j → l[j - 1]? = some y → y < x)) (fun i _ => N - (intOf i).toNat)
 case atStart => exact ⟨0, 0, Nat.zero_le _, rfl, rfl, fun j p hj => by omega⟩
 case round =>
  obtain ⟨k, m, hk, rfl, rfl, qe⟩ := hrel
  by_cases hlt : k < N
  ·have ik : (k : Int) < (N : Int) := by omega
   obtain ⟨x, hx⟩ : ∃ x, l[k]? = some x := ⟨_, List.getElem?_eq_getElem (by rw [HN.out]; exact hlt)⟩
   have HX : Hid (l[k]? = some x) := hx
   obtain ⟨b, off, ha, hcs⟩ := (HR.out.drewN m).cells (by rw [HN.out]; omega)
   have q0 := hcs k (by rw [HN.out]; omega)
   rw [show l.getD k 0 = x by simp [hx]] at q0
   have hw2 : IntKind.i64.wrap ((k : Int) + 1) = ((k + 1 : Nat) : Int) := by simp [IntKind.wrap, IntKind.bits, IntKind.signed]; omega
   obtain ⟨WW, hWW⟩ : ∃ WW, w.drewN m = WW := ⟨_, rfl⟩
   have HWW : Hid (w.drewN m = WW) := hWW
   subst ha
   by_cases h0 : x < 0
   ·have HF : Hid (¬ RiseI l) := fun hh => by
     have : 0 ≤ x := by
      rcases Nat.eq_zero_or_pos k with e | e
      ·subst e; exact hh.1 x HX.out
      ·obtain ⟨y0, hy0⟩ : ∃ y, l[0]? = some y := ⟨_, List.getElem?_eq_getElem (by rw [HN.out]; omega)⟩
       have h1 := hh.1 y0 hy0
       have h2 : ∀ (j : Nat) (z : Int), l[j]? = some z → 0 ≤ z := by
        intro j
        induction j with
        | zero => intro z hz; rw [hy0] at hz; cases hz; exact h1
        | succ j ih =>
         intro z hz
         obtain ⟨u, hu⟩ : ∃ u, l[j]? = some u := ⟨_, List.getElem?_eq_getElem (by have := (List.getElem?_eq_some_iff.1 hz).1; omega)⟩
         have := ih u hu
         have := hh.2 j u z hu hz
         omega
       exact h2 k x HX.out
     omega
    rw [hWW] at q0 ⊢
    clear hcs hx qe hWW
    go_wp2
    go_quiet (fail)
    have b2 : Below w.heap.size w (WW.drewN nq) := by rw [← HWW.out]; exact below_drewN (below_drewN (Below.refl _ _) m) nq
    go_wp2
    go_ret
    exact ⟨Tells.no HF.out, b2⟩
   ·rcases Nat.eq_zero_or_pos k with e | e
    ·have qe' : Hid (∀ (j : Nat) (z : Int), j < k + 1 → l[j]? = some z → 0 ≤ z ∧ ∀ y, 0 < j → l[j - 1]? = some y → y < z) := fun j z hj hz => by
      have hj0 : j = k := by omega
      subst hj0
      rw [HX.out] at hz
      cases hz
      exact ⟨by omega, fun y hy => by omega⟩
     have hk0' : decide ((0 : Int) < (k : Int)) = false := by rw [decide_eq_false_iff_not]; omega
     have hk1' : decide (0 < k) = false := by rw [decide_eq_false_iff_not]; omega
     have hx0' : decide (x < 0) = false := by rw [decide_eq_false_iff_not]; omega
     have HE : Hid (k = 0) := e
     rw [hWW] at q0 ⊢
     clear hcs hx qe hWW e
     go_wp2
     refine wp_region_noPanic ?_
     refine wp_region_held_drew (S := fun w'' => w''.cell? ⟨b, off + k, none⟩ = some (.int .i64 x)) (by kernel_rfl) (by exact kept (below_drew WW) q0) (fun hHeld => ?_)
     refine qtk (i := 0) (oi := { dst := some 10, op := Op.move (.tmp 0), type := 24, pos := "ref.go:166", after := #[], guard := none }) (v := (.slice (some ⟨b, off, none⟩) N c)) hHeld ?_ ?_
     ·intro w9 hSw
      try dsimp only at hSw
      go_simp
     try simp only [qpu]
     refine qtk (i := 1) (oi := { dst := some 11, op := Op.move (.tmp 3), type := 3, pos := "ref.go:166", after := #[], guard := none }) (v := (.int .i64 (k : Int))) hHeld ?_ ?_
     ·intro w9 hSw
      try dsimp only at hSw
      go_simp
     try simp only [qpu]
     refine qtk (i := 2) (oi := { dst := some 12, op := Op.indexAddr 24 (.tmp 10) (.tmp 11), type := 0, pos := "ref.go:166", after := #[{ on := 0, ground := Ground.data }, { on := 1, ground := Ground.data }], guard := none }) (v := (.pointer (some ⟨b, off + k, none⟩))) hHeld ?_ ?_
     ·intro w9 hSw
      try dsimp only at hSw
      go_simp
     try simp only [qpu]
     refine qtk (i := 3) (oi := { dst := some 13, op := Op.load 3 (.tmp 12), type := 3, pos := "ref.go:166", after := #[{ on := 2, ground := Ground.data }], guard := none }) (v := (.int .i64 x)) hHeld ?_ ?_
     ·intro w9 hSw
      try dsimp only at hSw
      go_simp
     try simp only [qpu]
     refine qtk (i := 4) (oi := { dst := some 14, op := Op.binOp BinOp.lss 3 (.tmp 13) (.const (.int .i64 0)) 3, type := 4, pos := "ref.go:166", after := #[{ on := 3, ground := Ground.data }], guard := none }) (v := (.bool false)) hHeld ?_ ?_
     ·intro w9 hSw
      try dsimp only at hSw
      go_simp
     try simp only [qpu]
     refine qtk (i := 5) (oi := { dst := some 15, op := Op.move (.tmp 14), type := 4, pos := "ref.go:166", after := #[{ on := 4, ground := Ground.data }], guard := none }) (v := (.bool false)) hHeld ?_ ?_
     ·intro w9 hSw
      try dsimp only at hSw
      go_simp
     try simp only [qpu]
     refine qtk (i := 6) (oi := { dst := some 16, op := Op.move (.tmp 3), type := 3, pos := "ref.go:166", after := #[{ on := 5, ground := Ground.guard }], guard := some (5, false) }) (v := (.int .i64 (k : Int))) hHeld ?_ ?_
     ·intro w9 hSw
      try dsimp only at hSw
      go_simp
     try simp only [qpu]
     refine qtk (i := 7) (oi := { dst := some 17, op := Op.binOp BinOp.gtr 3 (.tmp 16) (.const (.int .i64 0)) 3, type := 4, pos := "ref.go:166", after := #[{ on := 6, ground := Ground.data }, { on := 5, ground := Ground.guard }], guard := some (5, false) }) (v := (.bool false)) hHeld ?_ ?_
     ·intro w9 hSw
      try dsimp only at hSw
      go_simp
     try simp only [qpu]
     refine qtk (i := 8) (oi := { dst := some 18, op := Op.move (.tmp 17), type := 4, pos := "ref.go:166", after := #[{ on := 7, ground := Ground.data }, { on := 5, ground := Ground.chain }, { on := 5, ground := Ground.guard }], guard := some (5, false) }) (v := (.bool false)) hHeld ?_ ?_
     ·intro w9 hSw
      try dsimp only at hSw
      go_simp
     try simp only [qpu]
     refine qtn (i := 9) (oi := { dst := some 19, op := Op.move (.tmp 0), type := 24, pos := "ref.go:166", after := #[{ on := 8, ground := Ground.guard }], guard := some (8, true) }) hHeld ?_
     try simp only [qpu]
     refine qtn (i := 10) (oi := { dst := some 20, op := Op.move (.tmp 3), type := 3, pos := "ref.go:166", after := #[{ on := 8, ground := Ground.guard }], guard := some (8, true) }) hHeld ?_
     try simp only [qpu]
     refine qtn (i := 11) (oi := { dst := some 21, op := Op.indexAddr 24 (.tmp 19) (.tmp 20), type := 0, pos := "ref.go:166", after := #[{ on := 9, ground := Ground.data }, { on := 10, ground := Ground.data }, { on := 8, ground := Ground.guard }], guard := some (8, true) }) hHeld ?_
     try simp only [qpu]
     refine qtn (i := 12) (oi := { dst := some 22, op := Op.load 3 (.tmp 21), type := 3, pos := "ref.go:166", after := #[{ on := 11, ground := Ground.data }, { on := 8, ground := Ground.guard }], guard := some (8, true) }) hHeld ?_
     try simp only [qpu]
     refine qtn (i := 13) (oi := { dst := some 23, op := Op.move (.tmp 0), type := 24, pos := "ref.go:166", after := #[{ on := 8, ground := Ground.guard }], guard := some (8, true) }) hHeld ?_
     try simp only [qpu]
     refine qtn (i := 14) (oi := { dst := some 24, op := Op.move (.tmp 3), type := 3, pos := "ref.go:166", after := #[{ on := 8, ground := Ground.guard }], guard := some (8, true) }) hHeld ?_
     try simp only [qpu]
     refine qtn (i := 15) (oi := { dst := some 25, op := Op.binOp BinOp.sub 3 (.tmp 24) (.const (.int .i64 1)) 3, type := 3, pos := "ref.go:166", after := #[{ on := 14, ground := Ground.data }, { on := 8, ground := Ground.guard }], guard := some (8, true) }) hHeld ?_
     try simp only [qpu]
     refine qtn (i := 16) (oi := { dst := some 26, op := Op.indexAddr 24 (.tmp 23) (.tmp 25), type := 0, pos := "ref.go:166", after := #[{ on := 13, ground := Ground.data }, { on := 15, ground := Ground.data }, { on := 8, ground := Ground.guard }], guard := some (8, true) }) hHeld ?_
     try simp only [qpu]
     refine qtn (i := 17) (oi := { dst := some 27, op := Op.load 3 (.tmp 26), type := 3, pos := "ref.go:166", after := #[{ on := 16, ground := Ground.data }, { on := 8, ground := Ground.guard }], guard := some (8, true) }) hHeld ?_
     try simp only [qpu]
     refine qtn (i := 18) (oi := { dst := some 28, op := Op.binOp BinOp.leq 3 (.tmp 22) (.tmp 27) 3, type := 4, pos := "ref.go:166", after := #[{ on := 12, ground := Ground.data }, { on := 17, ground := Ground.data }, { on := 8, ground := Ground.guard }], guard := some (8, true) }) hHeld ?_
     try simp only [qpu]
     refine qtk (i := 19) (oi := { dst := some 29, op := Op.pick (.tmp 18) (.tmp 28) (.const (.bool false)), type := 4, pos := "ref.go:166", after := #[{ on := 8, ground := Ground.data }, { on := 18, ground := Ground.data }, { on := 5, ground := Ground.guard }], guard := some (5, false) }) (v := (.bool false)) hHeld ?_ ?_
     ·intro w9 hSw
      try dsimp only at hSw
      go_simp
     try simp only [qpu]
     refine qtk (i := 20) (oi := { dst := some 30, op := Op.pick (.tmp 15) (.const (.bool true)) (.tmp 29), type := 4, pos := "ref.go:166", after := #[{ on := 5, ground := Ground.data }, { on := 19, ground := Ground.data }], guard := none }) (v := (.bool false)) hHeld ?_ ?_
     ·intro w9 hSw
      try dsimp only at hSw
      go_simp
     try simp only [qpu]
     refine wpAnyH_done (by kernel_rfl) ?_ _
     refine NoPanic.normal ?_
     have HD : Hid (WW.drew = w.drewN (m + 1)) := by show _ = _; rw [← HWW.out]; exact drewN_add w m 1
     go_wp2
     exact ⟨⟨k + 1, m + 1, by omega, by first | rfl | (congr 1), HD.out, qe'⟩, by simp only [intOf]; omega⟩
    ·obtain ⟨y, hy⟩ : ∃ y, l[k - 1]? = some y := ⟨_, List.getElem?_eq_getElem (by rw [HN.out]; omega)⟩
     have HY : Hid (l[k - 1]? = some y) := hy
     have q1 := hcs (k - 1) (by rw [HN.out]; omega)
     rw [show l.getD (k - 1) 0 = y by simp [hy]] at q1
     have hw1 : IntKind.i64.wrap ((k : Int) - 1) = ((k - 1 : Nat) : Int) := by simp [IntKind.wrap, IntKind.bits, IntKind.signed]; omega
     have hk0 : (0 : Int) < (k : Int) := by omega
     have hk2 : k - 1 < N := by omega
     rw [hWW] at q0 q1 ⊢
     clear hcs hx hy hWW
     by_cases hxy : x ≤ y
     ·have HF : Hid (¬ RiseI l) := fun hh => by
       have := hh.2 (k - 1) y x HY.out (by rw [show k - 1 + 1 = k by omega]; exact HX.out)
       omega
      clear qe
      go_wp2
      go_quiet (fail)
      have b2 : Below w.heap.size w (WW.drewN nq) := by rw [← HWW.out]; exact below_drewN (below_drewN (Below.refl _ _) m) nq
      go_wp2
      go_ret
      exact ⟨Tells.no HF.out, b2⟩
     ·have qe' : Hid (∀ (j : Nat) (z : Int), j < k + 1 → l[j]? = some z → 0 ≤ z ∧ ∀ u, 0 < j → l[j - 1]? = some u → u < z) := fun j z hj hz => by
       by_cases e2 : j = k
       ·subst e2
        rw [HX.out] at hz
        cases hz
        refine ⟨by omega, fun u hu hu' => ?_⟩
        rw [HY.out] at hu'
        cases hu'
        omega
       ·exact qe.out j z (by omega) hz
      clear qe
      go_wp2
      go_quiet (fail)
      have HD : Hid (WW.drewN nq = w.drewN (m + nq)) := by show _ = _; rw [← HWW.out]; exact drewN_add w m nq
      go_wp2
      exact ⟨⟨k + 1, m + nq, by omega, by first | rfl | (congr 1), HD.out, qe'⟩, by simp only [intOf]; omega⟩
  ·have ik : ¬ (k : Int) < (N : Int) := by omega
   have HT : Hid (RiseI l) := ⟨fun x hx => (qe.out 0 x (by have := (List.getElem?_eq_some_iff.1 hx).1; have := HN.out; omega) hx).1, fun i x y hx hy => by
    have h1 := (List.getElem?_eq_some_iff.1 hy).1
    have h2 := HN.out
    exact (qe.out (i + 1) y (by omega) hy).2 x (by omega) (by rw [show i + 1 - 1 = i by omega]; exact hx)⟩
   clear qe
   go_wp2
   go_ret
   exact ⟨Tells.yes HT.out, below_drewN (Below.refl _ _) m⟩
theorem RowP.drewN {w : World} {a : Option Addr} {l : List Pt} (h : RowP w a l) (n : Nat) : RowP (w.drewN n) a l := h.low (below_drewN (Below.refl _ _) n)
end Go.Proofs.YtmfgjicfdjjihaaGreatDoor
