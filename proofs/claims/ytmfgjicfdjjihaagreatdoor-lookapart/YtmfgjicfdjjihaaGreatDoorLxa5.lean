/- Texts joined: FrA ChQ -/
import Derived.Test.YtmfgjicfdjjihaaGreatDoorLxa4
namespace Go.Proofs.YtmfgjicfdjjihaaGreatDoor
open Go.RowKit
set_option linter.unusedVariables false
set_option linter.unusedSimpArgs false
/-- A rule, as its numbers. -/
structure Rl where
 fr : Int
 tz : Int
 s : Ad
 sn : Int
 d : Ad
 dn : Int
 pr : Int
 sl : Int
 sh : Int
 dl : Int
 dh : Int
 ac : Int
 he : Int
abbrev Rl.v (r : Rl) : Array Value := #[.int .i64 r.fr, .int .i64 r.tz, .int .i64 r.s.fam, .int .u64 r.s.hi, .int .u64 r.s.lo, .int .i64 r.sn, .int .i64 r.d.fam, .int .u64 r.d.hi, .int .u64 r.d.lo, .int .i64 r.dn, .int .i64 r.pr, .int .i64 r.sl, .int .i64 r.sh, .int .i64 r.dl, .int .i64 r.dh, .int .i64 r.ac, .int .i64 r.he]
structure Rl.ok (r : Rl) : Prop where
 s : r.s.ok
 d : r.d.ok
/-- A key, as its numbers. -/
structure Ky where
 fr : Int
 tz : Int
 s : Ad
 d : Ad
 pr : Int
 sp : Int
 dp : Int
abbrev Ky.v (k : Ky) : Array Value := #[.int .i64 k.fr, .int .i64 k.tz, .int .i64 k.s.fam, .int .u64 k.s.hi, .int .u64 k.s.lo, .int .i64 k.d.fam, .int .u64 k.d.hi, .int .u64 k.d.lo, .int .i64 k.pr, .int .i64 k.sp, .int .i64 k.dp]
structure Ky.ok (k : Ky) : Prop where
 s : k.s.ok
 d : k.d.ok
def inB (n lo hi : Int) : Bool := decide (lo ≤ n) && decide (n ≤ hi)
def zeroP (a : Ad) (n : Int) : Bool := a.fam == 0 && (a.hi == 0 && (a.lo == 0 && n == 0))
def netB (a : Ad) (n : Int) : Bool := zeroP a n || a.rightPrefix n
def hasB (a : Ad) (n : Int) (x : Ad) : Bool := zeroP a n || a.has n x
def portB (lo hi : Int) : Bool := decide (0 ≤ lo) && (decide (lo ≤ hi) && decide (hi ≤ 65535))
def Ky.right (k : Ky) : Bool := inB k.fr 0 15 && (inB k.tz 0 15 && (k.s.right && (k.d.right && ((k.s.fam == k.d.fam) && (inB k.pr 0 255 && (inB k.sp 0 65535 && inB k.dp 0 65535))))))
def Rl.right (r : Rl) : Bool := inB r.fr (-1) 15 && (inB r.tz (-1) 15 && (netB r.s r.sn && (netB r.d r.dn && (inB r.pr 0 255 && (portB r.sl r.sh && (portB r.dl r.dh && ((r.ac == 0 || r.ac == 1) && inB r.he 0 3)))))))
/-- Are the parts of a key those that the rule asks for? -/
def Rl.asks (r : Rl) (k : Ky) : Bool := (decide (r.fr < 0) || r.fr == k.fr) && ((decide (r.tz < 0) || r.tz == k.tz) && (hasB r.s r.sn k.s && (hasB r.d r.dn k.d && ((r.pr == 0 || r.pr == k.pr) && (inB k.sp r.sl r.sh && inB k.dp r.dl r.dh)))))
def Rl.takes (r : Rl) (k : Ky) : Bool := r.right && (k.right && r.asks k)
/-- Is one prefix as wide as another one? -/
def reachB (a : Ad) (n : Int) (b : Ad) (m : Int) : Bool := zeroP a n || (b.rightPrefix m && (decide (n ≤ m) && a.has n b))
/-- Is a rule as wide in each part? -/
def Rl.wider (a b : Rl) : Bool := (decide (a.fr < 0) || a.fr == b.fr) && ((decide (a.tz < 0) || a.tz == b.tz) && (reachB a.s a.sn b.s b.sn && (reachB a.d a.dn b.d b.dn && ((a.pr == 0 || a.pr == b.pr) && (decide (a.sl ≤ b.sl) && (decide (b.sh ≤ a.sh) && (decide (a.dl ≤ b.dl) && decide (b.dh ≤ a.dh))))))))
theorem within_any (n lo hi : Int) (w : World) :
  Calls Tryz.prog 87 #[.int .i64 n, .int .i64 lo, .int .i64 hi] w fun e w' => e = .returned (.bool (inB n lo hi)) ∧ w' = w := by
 go_enter Tryz.func87, Tryz.ntmps87
 by_cases h : lo ≤ n
 ·by_cases h' : n ≤ hi
  all_goals (go_wp2; go_ret; exact ⟨by first | (simp [inB, *]; done) | (simp [inB]; omega), rfl⟩)
 ·go_wp2; go_ret; exact ⟨by first | (simp [inB, *]; done) | (simp [inB]; omega), rfl⟩
theorem in_any (n lo hi : Int) (w : World) :
  Calls Tryz.prog 40 #[.int .i64 n, .int .i64 lo, .int .i64 hi] w fun e w' => e = .returned (.bool (inB n lo hi)) ∧ w' = w := by
 go_enter Tryz.func40, Tryz.ntmps40
 by_cases h : lo ≤ n
 ·by_cases h' : n ≤ hi
  all_goals (go_wp2; go_ret; exact ⟨by first | (simp [inB, *]; done) | (simp [inB]; omega), rfl⟩)
 ·go_wp2; go_ret; exact ⟨by first | (simp [inB, *]; done) | (simp [inB]; omega), rfl⟩
theorem every_any (f h l b : Int) (w : World) :
  Calls Tryz.prog 106 #[.agg #[.int .i64 f, .int .u64 h, .int .u64 l, .int .i64 b]] w fun e w' => e = .returned (.bool (zeroP ⟨f, h, l⟩ b)) ∧ Below w.heap.size w w' := by
 go_enter Tryz.func106, Tryz.ntmps106
 go_wp2
 all_goals go_ret
 all_goals exact ⟨by simp [zeroP, *], (Below.refl _ _).alloc (Nat.le_refl _) _⟩
theorem rightPorts_any (lo hi : Int) (w : World) :
  Calls Tryz.prog 89 #[.agg #[.int .i64 lo, .int .i64 hi]] w fun e w' => e = .returned (.bool (portB lo hi)) ∧ Below w.heap.size w w' := by
 go_enter Tryz.func89, Tryz.ntmps89
 by_cases h : 0 ≤ lo
 ·by_cases h' : lo ≤ hi
  ·by_cases h2 : hi ≤ 65535
   all_goals (go_wp2; go_ret; exact ⟨by first | (simp [portB, *]; done) | (simp [portB]; omega), (Below.refl _ _).alloc (Nat.le_refl _) _⟩)
  ·go_wp2; go_ret; exact ⟨by first | (simp [portB, *]; done) | (simp [portB]; omega), (Below.refl _ _).alloc (Nat.le_refl _) _⟩
 ·go_wp2; go_ret; exact ⟨by first | (simp [portB, *]; done) | (simp [portB]; omega), (Below.refl _ _).alloc (Nat.le_refl _) _⟩
theorem ports_any (lo hi : Int) (w : World) :
  Calls Tryz.prog 98 #[.agg #[.int .i64 lo, .int .i64 hi]] w fun e w' => e = .returned (.bool (portB lo hi)) ∧ Below w.heap.size w w' := by
 go_enter Tryz.func98, Tryz.ntmps98
 by_cases h : 0 ≤ lo
 ·by_cases h' : lo ≤ hi
  ·by_cases h2 : hi ≤ 65535
   all_goals (go_wp2; go_ret; exact ⟨by first | (simp [portB, *]; done) | (simp [portB]; omega), (Below.refl _ _).alloc (Nat.le_refl _) _⟩)
  ·go_wp2; go_ret; exact ⟨by first | (simp [portB, *]; done) | (simp [portB]; omega), (Below.refl _ _).alloc (Nat.le_refl _) _⟩
 ·go_wp2; go_ret; exact ⟨by first | (simp [portB, *]; done) | (simp [portB]; omega), (Below.refl _ _).alloc (Nat.le_refl _) _⟩
theorem rightNet_any (f h l b : Int) (w : World) (ho : Ad.ok ⟨f, h, l⟩) :
  Calls Tryz.prog 88 #[.agg #[.int .i64 f, .int .u64 h, .int .u64 l, .int .i64 b]] w fun e w' => e = .returned (.bool (netB ⟨f, h, l⟩ b)) ∧ Below w.heap.size w w' := by
 have K1 := every_any f h l b
 have K2 := fun W => rightPrefix_any f h l b W ho
 unfold netB
 generalize zeroP ⟨f, h, l⟩ b = z at *
 generalize Ad.rightPrefix ⟨f, h, l⟩ b = p at *
 clear ho
 go_enter Tryz.func88, Tryz.ntmps88
 go_wp2_with fail
 refine (K1 _).mono ?_
 rintro e w1 ⟨rfl, b1⟩
 have k0 := kept b1 (b := w.heap.size) (o := 0) (v := .int .i64 f) (by simp)
 have k1 := kept b1 (b := w.heap.size) (o := 1) (v := .int .u64 h) (by simp)
 have k2 := kept b1 (b := w.heap.size) (o := 2) (v := .int .u64 l) (by simp)
 have k3 := kept b1 (b := w.heap.size) (o := 3) (v := .int .i64 b) (by simp)
 have b2 := bel_tr (bel_nw rfl) b1
 clear b1 K1
 cases z
 ·go_wp2_with fail
  refine (K2 _).mono ?_
  rintro e w2 ⟨rfl, b3⟩
  have b4 := bel_tr b2 b3
  clear b3 K2 k0 k1 k2 k3
  go_wp2
  go_ret
  exact ⟨by simp, b4⟩
 ·go_wp2_with fail
  go_ret
  exact ⟨by simp, b2⟩
theorem prefix_any (f h l b : Int) (w : World) (ho : Ad.ok ⟨f, h, l⟩) :
  Calls Tryz.prog 97 #[.agg #[.int .i64 f, .int .u64 h, .int .u64 l, .int .i64 b]] w fun e w' => e = .returned (.bool (netB ⟨f, h, l⟩ b)) ∧ Below w.heap.size w w' := by
 have K2 := fun W => rrightPrefix_any f h l b W ho
 unfold netB
 generalize Ad.rightPrefix ⟨f, h, l⟩ b = p at *
 clear ho
 go_enter Tryz.func97, Tryz.ntmps97
 by_cases hz : f = 0 ∧ h = 0 ∧ l = 0 ∧ b = 0
 ·obtain ⟨rfl, rfl, rfl, rfl⟩ := hz
  go_wp2_with fail
  go_ret
  exact ⟨by simp [zeroP], (Below.refl _ _).alloc (Nat.le_refl _) _⟩
 ·have hz' : zeroP ⟨f, h, l⟩ b = false := by simpa [zeroP] using hz
  rw [hz']
  clear hz'
  have hz4 : f ≠ 0 ∨ (f = 0 ∧ h ≠ 0) ∨ (f = 0 ∧ h = 0 ∧ l ≠ 0) ∨ (f = 0 ∧ h = 0 ∧ l = 0 ∧ b ≠ 0) := by omega
  clear hz
  rcases hz4 with h1 | ⟨rfl, h1⟩ | ⟨rfl, rfl, h1⟩ | ⟨rfl, rfl, rfl, h1⟩
  all_goals go_wp2_with fail
  all_goals (refine (K2 _).mono ?_; rintro e w2 ⟨rfl, b3⟩; have b4 := bel_tr (bel_nw rfl) b3; clear b3 h1; go_wp2; go_ret; exact ⟨by simp, b4⟩)
set_option maxHeartbeats 1000000 in
theorem hasR_any (f h l b f' h' l' : Int) (w : World) (ho : Ad.ok ⟨f, h, l⟩) (ho' : Ad.ok ⟨f', h', l'⟩) :
  Calls Tryz.prog 71 #[.agg #[.int .i64 f, .int .u64 h, .int .u64 l, .int .i64 b], .agg #[.int .i64 f', .int .u64 h', .int .u64 l']] w fun e w' => e = .returned (.bool (hasB ⟨f, h, l⟩ b ⟨f', h', l'⟩)) ∧ Below w.heap.size w w' := by
 have K2 := fun W => rhas_any f h l b f' h' l' W ho ho'
 unfold hasB
 generalize Ad.has ⟨f, h, l⟩ b ⟨f', h', l'⟩ = p at *
 clear ho ho'
 have bel : Below w.heap.size w ((w.alloc (.cells #[.int .i64 f, .int .u64 h, .int .u64 l, .int .i64 b] 78)).alloc (.cells #[.int .i64 f', .int .u64 h', .int .u64 l'] 31)) := bel_al (bel_nw rfl) rfl
 go_enter Tryz.func71, Tryz.ntmps71
 by_cases hz : f = 0 ∧ h = 0 ∧ l = 0 ∧ b = 0
 ·obtain ⟨rfl, rfl, rfl, rfl⟩ := hz
  go_wp2_with fail
  go_ret
  exact ⟨by simp [zeroP], bel⟩
 ·have hz' : zeroP ⟨f, h, l⟩ b = false := by simpa [zeroP] using hz
  rw [hz']
  clear hz'
  have hz4 : f ≠ 0 ∨ (f = 0 ∧ h ≠ 0) ∨ (f = 0 ∧ h = 0 ∧ l ≠ 0) ∨ (f = 0 ∧ h = 0 ∧ l = 0 ∧ b ≠ 0) := by omega
  clear hz
  rcases hz4 with h1 | ⟨rfl, h1⟩ | ⟨rfl, rfl, h1⟩ | ⟨rfl, rfl, rfl, h1⟩
  all_goals go_wp2_with fail
  all_goals (refine (K2 _).mono ?_; rintro e w2 ⟨rfl, b3⟩; have b4 := bel_tr bel b3; clear b3 h1; go_wp2; go_ret; exact ⟨by simp, b4⟩)
end Go.Proofs.YtmfgjicfdjjihaaGreatDoor
namespace Go.Proofs.YtmfgjicfdjjihaaGreatDoor
set_option linter.unusedVariables false
set_option linter.unusedSimpArgs false
/-- A point. -/
structure Pt where
 a : Int
 b : Int
 c : Int
def Pt.ok (p : Pt) : Prop := (0 ≤ p.a ∧ p.a ≤ 18446744073709551615) ∧ (0 ≤ p.b ∧ p.b ≤ 18446744073709551615) ∧ (0 ≤ p.c ∧ p.c ≤ 18446744073709551615)
abbrev Pt.v (p : Pt) : Array Value := #[.int .u64 p.a, .int .u64 p.b, .int .u64 p.c]
/-- A point as one number. -/
def Pt.n (p : Pt) : Int := (p.a * 18446744073709551616 + p.b) * 18446744073709551616 + p.c
def Pt.less (p q : Pt) : Bool := decide (p.a < q.a) || (p.a == q.a && (decide (p.b < q.b) || (p.b == q.b && decide (p.c < q.c))))
def Pt.same (p q : Pt) : Bool := p.a == q.a && (p.b == q.b && p.c == q.c)
theorem Pt.same_iff {p q : Pt} : p.same q = true ↔ p = q := by
 cases p; cases q; simp [Pt.same]
theorem Pt.less_iff {p q : Pt} (hp : p.ok) (hq : q.ok) : p.less q = true ↔ p.n < q.n := by
 obtain ⟨a1, b1, c1⟩ := hp
 obtain ⟨a2, b2, c2⟩ := hq
 simp only [Pt.less, Pt.n, Bool.or_eq_true, Bool.and_eq_true, decide_eq_true_eq, beq_iff_eq]
 omega
theorem Pt.n_inj {p q : Pt} (hp : p.ok) (hq : q.ok) (h : p.n = q.n) : p = q := by
 obtain ⟨a1, b1, c1⟩ := hp
 obtain ⟨a2, b2, c2⟩ := hq
 cases p
 cases q
 simp only [Pt.n] at *
 simp only [Pt.mk.injEq]
 omega
theorem Pt.same_n {p q : Pt} (hp : p.ok) (hq : q.ok) : p.same q = true ↔ p.n = q.n := by
 rw [Pt.same_iff]
 exact ⟨fun h => by rw [h], Pt.n_inj hp hq⟩
theorem Pt.n_low {p : Pt} (hp : p.ok) : 0 ≤ p.n := by
 obtain ⟨a1, b1, c1⟩ := hp
 unfold Pt.n
 omega
/-- The one behind a point. -/
def Pt.next (p : Pt) : Pt := if p.c < 18446744073709551615 then ⟨p.a, p.b, p.c + 1⟩ else if p.b < 18446744073709551615 then ⟨p.a, p.b + 1, 0⟩ else ⟨p.a + 1, 0, 0⟩
theorem Pt.next_n {p : Pt} (hp : p.ok) : p.next.n = p.n + 1 := by
 obtain ⟨a1, b1, c1⟩ := hp
 unfold Pt.next
 split
 ·simp only [Pt.n]; omega
 ·split
  ·simp only [Pt.n]; omega
  ·simp only [Pt.n]; omega
theorem Pt.next_ok {p : Pt} (hp : p.ok) (ha : p.a ≤ 1000) : p.next.ok := by
 obtain ⟨a1, b1, c1⟩ := hp
 unfold Pt.next
 split
 ·exact ⟨by simp only; omega, by simp only; omega, by simp only; omega⟩
 ·split
  ·exact ⟨by simp only; omega, by simp only; omega, by simp only; omega⟩
  ·exact ⟨by simp only; omega, by simp only; omega, by simp only; omega⟩
def ptNum (n : Int) : Pt := ⟨0, 0, n⟩
def ptAd (a : Ad) : Pt := ⟨a.fam, a.hi, a.lo⟩
theorem ptNum_ok {n : Int} (h : 0 ≤ n) (h' : n ≤ 65535) : (ptNum n).ok := ⟨by simp [ptNum], by simp [ptNum], by simp only [ptNum]; omega⟩
theorem ptNum_n (n : Int) : (ptNum n).n = n := by simp [ptNum, Pt.n]
theorem right_fam {a : Ad} (hr : a.right = true) : a.fam = 4 ∨ a.fam = 6 := by
 unfold Ad.right at hr
 split at hr
 ·exact .inl (by assumption)
 ·exact .inr (by simpa using hr)
theorem ptAd_ok {a : Ad} (ho : a.ok) (hr : a.right = true) : (ptAd a).ok := by
 obtain ⟨h1, h2, h3⟩ := ho
 have := right_fam hr
 exact ⟨by simp only [ptAd]; omega, h2, h3⟩
theorem ptAd_n (a : Ad) : (ptAd a).n = a.fam * 340282366920938463463374607431768211456 + a.val := by
 simp only [ptAd, Pt.n, Ad.val, num2]
 omega
/-- The last address of a prefix. -/
def lastAd (a : Ad) (n : Int) : Ad := ⟨a.fam, (a.val + 2 ^ (a.width - n).toNat - 1) / 18446744073709551616, (a.val + 2 ^ (a.width - n).toNat - 1) % 18446744073709551616⟩
theorem lastAd_val (a : Ad) (n : Int) : (lastAd a n).val = a.val + 2 ^ (a.width - n).toNat - 1 := by
 simp only [lastAd, Ad.val, num2]
 omega
theorem lastAd_n (a : Ad) (n : Int) : (ptAd (lastAd a n)).n = (ptAd a).n + 2 ^ (a.width - n).toNat - 1 := by
 rw [ptAd_n, ptAd_n, lastAd_val]
 show a.fam * _ + _ = _
 omega
theorem val_low {a : Ad} (ho : a.ok) (hr : a.right = true) : 0 ≤ a.val ∧ a.val < 2 ^ a.width.toNat := by
 obtain ⟨h1, h2, h3⟩ := ho
 unfold Ad.right at hr
 unfold Ad.width
 simp only [Ad.val, num2]
 split at hr
 ·rename_i hf
  rw [if_pos hf]
  simp only [Bool.and_eq_true, beq_iff_eq] at hr
  show _ ∧ _ < (2 : Int) ^ 32
  omega
 ·rename_i hf
  rw [if_neg hf]
  show _ ∧ _ < (2 : Int) ^ 128
  omega
/-- What a prefix has is what lies from its address to its last one. -/
theorem has_between {p a : Ad} {n : Int} (hp : p.ok) (hr : p.rightPrefix n = true) (ho : a.ok) (har : a.right = true) : p.has n a = true ↔ (ptAd p).n ≤ (ptAd a).n ∧ (ptAd a).n ≤ (ptAd (lastAd p n)).n := by
 have hpp := has_iff.1 (show p.has n p = true from hr)
 obtain ⟨fp, ep⟩ := hpp
 have fp' := fp
 simp only [Ad.fits, Bool.and_eq_true, decide_eq_true_eq] at fp'
 obtain ⟨hpr, hn0, hn1⟩ := fp'
 have vp := val_low hp hpr
 have va := val_low ho har
 have mp := masked_val hp hpr hn0 hn1
 rw [ep] at mp
 have hK : (0 : Int) < 2 ^ (p.width - n).toNat := Int.pow_pos (by decide)
 rw [lastAd_n, ptAd_n, ptAd_n]
 have wp : (2 : Int) ^ p.width.toNat ≤ 340282366920938463463374607431768211456 := by
  unfold Ad.width
  split <;> decide
 have wa : (2 : Int) ^ a.width.toNat ≤ 340282366920938463463374607431768211456 := by
  unfold Ad.width
  split <;> decide
 have hsum : p.val + 2 ^ (p.width - n).toNat ≤ 2 ^ p.width.toNat := by
  -- a multiple of the block below the whole
  have hw : (2 : Int) ^ p.width.toNat = 2 ^ (p.width - n).toNat * 2 ^ n.toNat := by
   rw [← Int.pow_add]
   congr 1
   omega
  generalize hB : (2 : Int) ^ (p.width - n).toNat = B at *
  generalize hT : (2 : Int) ^ n.toNat = T at *
  rw [hw] at vp ⊢
  have h1 : p.val / B < T := by
   apply Int.ediv_lt_of_lt_mul hK
   rw [Int.mul_comm]
   exact vp.2
  have h2 : (p.val / B + 1) * B ≤ T * B := Int.mul_le_mul_of_nonneg_right (by omega) (by omega)
  rw [Int.add_mul, ← mp, Int.one_mul, Int.mul_comm T B] at h2
  exact h2
 constructor
 ·intro h
  have hx := has_all ho h
  obtain ⟨fa, ea⟩ := has_iff.1 h
  have ma := masked_val ho har hn0 (by
   simp only [Ad.fits, Bool.and_eq_true, decide_eq_true_eq] at fa
   exact fa.2.2)
  have hw : a.width = p.width := by unfold Ad.width; rw [hx.2.2]
  rw [ea, hw] at ma
  have h3 := Int.ediv_mul_le a.val (b := 2 ^ (p.width - n).toNat) (by omega)
  have h4 := Int.lt_ediv_add_one_mul_self a.val hK
  rw [Int.add_mul, ← ma] at h4
  rw [← ma] at h3
  rw [hx.2.2]
  omega
 ·intro ⟨h1, h2⟩
  have hf : a.fam = p.fam := by
   have r1 := right_fam har
   have r2 := right_fam hpr
   omega
  have hw : a.width = p.width := by unfold Ad.width; rw [hf]
  rw [hf] at h1 h2
  have fa : a.fits n = true := by
   simp only [Ad.fits, Bool.and_eq_true, decide_eq_true_eq]
   exact ⟨har, hn0, by rw [hw]; exact hn1⟩
  refine has_iff.2 ⟨fa, ?_⟩
  have ma := masked_val ho har hn0 (by rw [hw]; exact hn1)
  rw [hw] at ma
  have e : a.val / 2 ^ (p.width - n).toNat = p.val / 2 ^ (p.width - n).toNat := by
   generalize hB : (2 : Int) ^ (p.width - n).toNat = B at *
   generalize hq : p.val / B = q at *
   refine Int.le_antisymm ?_ ?_
   ·have : a.val < (q + 1) * B := by rw [Int.add_mul, ← mp]; omega
    have := Int.ediv_lt_of_lt_mul hK this
    omega
   ·apply Int.le_ediv_of_mul_le hK
    rw [← mp]
    omega
  rw [e, ← mp] at ma
  -- the masked one has p's family and value
  have hmo := masked_ok (b := n) ho
  obtain ⟨_, g2, g3⟩ := hmo
  obtain ⟨_, k2, k3⟩ := hp
  have hmf : (a.masked n).fam = p.fam := hf
  generalize a.masked n = x at *
  cases x
  cases p
  simp only [Ad.val, num2] at ma
  simp only at *
  simp only [Ad.mk.injEq]
  omega
/-- A rule's piece of a dimension, as points. -/
def Rl.from_ (r : Rl) (d : Nat) : Pt := match d with
 | 0 => ptNum r.fr
 | 1 => ptNum r.tz
 | 2 => ptAd r.s
 | 3 => ptAd r.d
 | 4 => ptNum r.pr
 | 5 => ptNum r.sl
 | _ => ptNum r.dl
def Rl.upto (r : Rl) (d : Nat) : Pt := match d with
 | 0 => ptNum r.fr
 | 1 => ptNum r.tz
 | 2 => ptAd (lastAd r.s r.sn)
 | 3 => ptAd (lastAd r.d r.dn)
 | 4 => ptNum r.pr
 | 5 => ptNum r.sh
 | _ => ptNum r.dh
def Rl.any_ (r : Rl) (d : Nat) : Bool := match d with
 | 0 => r.fr == -1
 | 1 => r.tz == -1
 | 2 => zeroP r.s r.sn
 | 3 => zeroP r.d r.dn
 | 4 => r.pr == 0
 | _ => false
def Rl.piece (r : Rl) (d : Nat) : Spn := ⟨(r.from_ d).n, (r.upto d).n, r.any_ d⟩
/-- A key's point. -/
def Ky.spot (k : Ky) (d : Nat) : Pt := match d with
 | 0 => ptNum k.fr
 | 1 => ptNum k.tz
 | 2 => ptAd k.s
 | 3 => ptAd k.d
 | 4 => ptNum k.pr
 | 5 => ptNum k.sp
 | _ => ptNum k.dp
theorem net_right {a : Ad} {n : Int} (h : netB a n = true) (hz : zeroP a n = false) : a.rightPrefix n = true := by
 simpa [netB, hz] using h
theorem right_of_prefix {a : Ad} {n : Int} (h : a.rightPrefix n = true) : a.right = true ∧ 0 ≤ n ∧ n ≤ a.width := by
 have := (has_iff.1 (show a.has n a = true from h)).1
 simp only [Ad.fits, Bool.and_eq_true, decide_eq_true_eq] at this
 exact this
theorem net_piece {a x : Ad} {n : Int} (ha : a.ok) (hx : x.ok) (hxr : x.right = true) (h : netB a n = true) : (⟨(ptAd a).n, (ptAd (lastAd a n)).n, zeroP a n⟩ : Spn).holds (ptAd x).n = hasB a n x := by
 unfold Spn.holds hasB
 cases hz : zeroP a n with
 | true => simp
 | false =>
  simp only [Bool.false_or]
  have := has_between ha (net_right h hz) hx hxr
  rw [Bool.eq_iff_iff, this]
  simp
/-- What a rule's right says, in pieces. -/
theorem Rl.right_all {r : Rl} (h : r.right = true) : (-1 ≤ r.fr ∧ r.fr ≤ 15) ∧ (-1 ≤ r.tz ∧ r.tz ≤ 15) ∧ netB r.s r.sn = true ∧ netB r.d r.dn = true ∧ (0 ≤ r.pr ∧ r.pr ≤ 255) ∧ (0 ≤ r.sl ∧ r.sl ≤ r.sh ∧ r.sh ≤ 65535) ∧ (0 ≤ r.dl ∧ r.dl ≤ r.dh ∧ r.dh ≤ 65535) := by
 simp only [Rl.right, inB, portB, Bool.and_eq_true, decide_eq_true_eq] at h
 obtain ⟨h1, h2, h3, h4, h5, h6, h7, _⟩ := h
 exact ⟨h1, h2, h3, h4, h5, h6, h7⟩
theorem Ky.right_all {k : Ky} (h : k.right = true) : (0 ≤ k.fr ∧ k.fr ≤ 15) ∧ (0 ≤ k.tz ∧ k.tz ≤ 15) ∧ k.s.right = true ∧ k.d.right = true ∧ (0 ≤ k.pr ∧ k.pr ≤ 255) ∧ (0 ≤ k.sp ∧ k.sp ≤ 65535) ∧ (0 ≤ k.dp ∧ k.dp ≤ 65535) := by
 simp only [Ky.right, inB, Bool.and_eq_true, decide_eq_true_eq] at h
 obtain ⟨h1, h2, h3, h4, _, h5, h6, h7⟩ := h
 exact ⟨h1, h2, h3, h4, h5, h6, h7⟩
/-- A rule takes a key just when each of its pieces holds the key's point. -/
theorem takes_pieces {r : Rl} {k : Ky} (ro : r.ok) (ko : k.ok) (hr : r.right = true) (hk : k.right = true) : r.takes k = true ↔ ∀ d, d < 7 → (r.piece d).holds (k.spot d).n = true := by
 obtain ⟨r1, r2, r3, r4, r5, r6, r7⟩ := Rl.right_all hr
 obtain ⟨k1, k2, k3, k4, k5, k6, k7⟩ := Ky.right_all hk
 have e2 := net_piece ro.s ko.s k3 r3
 have e3 := net_piece ro.d ko.d k4 r4
 have hall : (∀ d, d < 7 → (r.piece d).holds (k.spot d).n = true) ↔ ((r.piece 0).holds (k.spot 0).n = true ∧ (r.piece 1).holds (k.spot 1).n = true ∧ (r.piece 2).holds (k.spot 2).n = true ∧ (r.piece 3).holds (k.spot 3).n = true ∧ (r.piece 4).holds (k.spot 4).n = true ∧ (r.piece 5).holds (k.spot 5).n = true ∧ (r.piece 6).holds (k.spot 6).n = true) := by
  constructor
  ·intro h
   exact ⟨h 0 (by omega), h 1 (by omega), h 2 (by omega), h 3 (by omega), h 4 (by omega), h 5 (by omega), h 6 (by omega)⟩
  ·rintro ⟨h0, h1, h2, h3, h4, h5, h6⟩ d hd
   match d, hd with
   | 0, _ => exact h0
   | 1, _ => exact h1
   | 2, _ => exact h2
   | 3, _ => exact h3
   | 4, _ => exact h4
   | 5, _ => exact h5
   | 6, _ => exact h6
 rw [hall]
 have g2 : (r.piece 2).holds (k.spot 2).n = hasB r.s r.sn k.s := e2
 have g3 : (r.piece 3).holds (k.spot 3).n = hasB r.d r.dn k.d := e3
 rw [g2, g3]
 simp only [Rl.takes, hr, hk, Bool.true_and, Rl.asks, Bool.and_eq_true, Bool.or_eq_true, decide_eq_true_eq, beq_iff_eq, inB, Rl.piece, Rl.from_, Rl.upto, Rl.any_, Ky.spot, Spn.holds, ptNum_n]
 constructor
 ·rintro ⟨h0, h1, h2, h3, h4, h5, h6⟩
  exact ⟨by omega, by omega, h2, h3, by omega, by right; omega, by right; omega⟩
 ·rintro ⟨h0, h1, h2, h3, h4, h5, h6⟩
  refine ⟨by omega, by omega, h2, h3, by omega, ?_, ?_⟩
  ·rcases h5 with h5 | h5
   ·cases h5
   ·omega
  ·rcases h6 with h6 | h6
   ·cases h6
   ·omega
/-- Pieces of rules that may be, may be. -/
theorem pieces_ok {l : List Rl} (hl : ∀ r ∈ l, r.ok ∧ r.right = true) (d : Nat) : SpnOk (l.map (·.piece d)) := by
 intro p hp ha
 obtain ⟨r, hr, rfl⟩ := List.mem_map.1 hp
 obtain ⟨ro, hrr⟩ := hl r hr
 obtain ⟨r1, r2, r3, r4, r5, r6, r7⟩ := Rl.right_all hrr
 have hn : ∀ {a : Ad} {n : Int}, a.ok → netB a n = true → zeroP a n = false → 0 ≤ (ptAd a).n ∧ (ptAd a).n ≤ (ptAd (lastAd a n)).n := fun {a n} ho h hz => by
  have hp := net_right h hz
  have h1 := right_of_prefix hp
  refine ⟨Pt.n_low (ptAd_ok ho h1.1), ?_⟩
  rw [lastAd_n]
  have : (0 : Int) < 2 ^ (a.width - n).toNat := Int.pow_pos (by decide)
  omega
 match d with
 | 0 =>
  have ha' : (r.fr == -1) = false := ha
  simp only [beq_eq_false_iff_ne, ne_eq] at ha'
  simp only [Rl.piece, Rl.from_, Rl.upto, ptNum_n]
  omega
 | 1 =>
  have ha' : (r.tz == -1) = false := ha
  simp only [beq_eq_false_iff_ne, ne_eq] at ha'
  simp only [Rl.piece, Rl.from_, Rl.upto, ptNum_n]
  omega
 | 2 => exact hn ro.s r3 ha
 | 3 => exact hn ro.d r4 ha
 | 4 =>
  simp only [Rl.piece, Rl.from_, Rl.upto, ptNum_n]
  omega
 | 5 =>
  simp only [Rl.piece, Rl.from_, Rl.upto, ptNum_n]
  omega
 | d + 6 =>
  simp only [Rl.piece, Rl.from_, Rl.upto, ptNum_n]
  omega
end Go.Proofs.YtmfgjicfdjjihaaGreatDoor
