/- Texts joined: RHasA RHasB FrA -/
import Derived.Test.YtgppfkbapieneaaDoorCox7
import Derived.Deep.DeepCutAuto
namespace Go.Proofs.YtgppfkbapieneaaDoor
open Go.RowKit
set_option linter.unusedVariables false
set_option linter.unusedSimpArgs false
theorem rmask_any (f h l b : Int) (w : World) (ho : Ad.ok ⟨f, h, l⟩) :
    Calls Tryd.prog 86 #[.agg #[.int .i64 f, .int .u64 h, .int .u64 l], .int .i64 b] w fun e w' => e = .returned (.tuple #[(Ad.mask ⟨f, h, l⟩ b).1.v, .int .i64 (Ad.mask ⟨f, h, l⟩ b).2]) ∧ Below w.heap.size w w' := by
  cases hr : Ad.right ⟨f, h, l⟩ with
  | false =>
    rw [mask_bad (by unfold Ad.fits; rw [hr]; rfl)]
    exact rmask_n1 f h l b w ho hr
  | true =>
    by_cases hb : b < 0
    · rw [mask_bad (by unfold Ad.fits; rw [decide_eq_false (show ¬ 0 ≤ b by omega)]; simp)]
      exact rmask_n2 f h l b w ho hr hb
    by_cases hw : b > Ad.width ⟨f, h, l⟩
    · rw [mask_bad (by unfold Ad.fits; rw [decide_eq_false (show ¬ b ≤ Ad.width ⟨f, h, l⟩ by omega)]; simp)]
      exact rmask_n3 f h l b w ho hr hb hw
    · rw [mask_good (by unfold Ad.fits; rw [hr, decide_eq_true (show 0 ≤ b by omega), decide_eq_true (show b ≤ Ad.width ⟨f, h, l⟩ by omega)]; rfl)]
      exact rmask_y f h l b w ho hr hb hw
set_option maxHeartbeats 400000 in
theorem rrightPrefix_any (f h l b : Int) (w : World) (ho : Ad.ok ⟨f, h, l⟩) :
    Calls Tryd.prog 75 #[.agg #[.int .i64 f, .int .u64 h, .int .u64 l, .int .i64 b]] w fun e w' =>
      e = .returned (.bool (Ad.rightPrefix ⟨f, h, l⟩ b)) ∧ Below w.heap.size w w' := by
  unfold Ad.rightPrefix Ad.has
  have hm := fun w => rmask_any f h l b w ho
  generalize Ad.mask ⟨f, h, l⟩ b = m at *
  obtain ⟨⟨mf, mh, ml⟩, me⟩ := m
  simp only at hm
  go_enter Tryd.func75, Tryd.ntmps75
  go_wp2_with fail
  refine (hm _).mono ?_
  rintro e w1 ⟨rfl, b1⟩
  have k0 : ∀ X, (w1.alloc X).cell? ⟨w.heap.size, 0, none⟩ = some (.int .i64 f) := fun X => kept_alloc b1 X (by simp)
  have k1 : ∀ X, (w1.alloc X).cell? ⟨w.heap.size, 1, none⟩ = some (.int .u64 h) := fun X => kept_alloc b1 X (by simp)
  have k2 : ∀ X, (w1.alloc X).cell? ⟨w.heap.size, 2, none⟩ = some (.int .u64 l) := fun X => kept_alloc b1 X (by simp)
  have bz : w.heap.size ≤ w1.heap.size := by have := b1.size; simp at this; omega
  by_cases he : me = 0
  · go_wp2
    all_goals go_ret
    all_goals exact ⟨by first | simp_all [Ad.same] | simp [Ad.same, *], (((Below.refl _ _).alloc (Nat.le_refl _) _).trans (b1.mono (by simp))).alloc bz _⟩
  · go_wp2
    go_ret
    exact ⟨by simp [he], (((Below.refl _ _).alloc (Nat.le_refl _) _).trans (b1.mono (by simp))).alloc bz _⟩
set_option maxRecDepth 100000 in
set_option maxHeartbeats 4000000 in
theorem rbytes_no (f h l : Int) (w : World) (ho : Ad.ok ⟨f, h, l⟩) (hr : Ad.right ⟨f, h, l⟩ = false) :
    Calls Tryd.prog 82 #[.agg #[.int .i64 f, .int .u64 h, .int .u64 l]] w fun e w' => e = .returned (.slice none 0 0) ∧ Below w.heap.size w w' := by
  obtain ⟨W1, hW1⟩ : ∃ W1, w.alloc (.cells #[.int .i64 f, .int .u64 h, .int .u64 l] 38) = W1 := ⟨_, rfl⟩
  have b1 := bel_nw hW1
  have P1 := blk_nw hW1
  have KR : Hid (∀ W, Calls Tryd.prog 70 #[.agg #[.int .i64 f, .int .u64 h, .int .u64 l]] W fun e w' => e = .returned (.bool false) ∧ Below W.heap.size W w') := fun W => by
    have := rright_any f h l W ho.2.2.1
    rw [hr] at this
    exact Calls.mono this (by rintro e w' ⟨rfl, rfl⟩; exact ⟨rfl, (Below.refl _ _).alloc (Nat.le_refl _) _⟩)
  clear hr
  go_enter Tryd.func82, Tryd.ntmps82
  go_wp2_with (refine wpList_load_row rfl _ _ rfl w.heap.size (by rfl) _ _ _ _ P1 Tryd.underlying38 rfl (by kernel_rfl) ?_)
  refine Calls.mono (KR.out _) ?_
  rintro e W3 ⟨rfl, bb⟩
  have b3 := bel_tr b1 bb
  clear KR bb P1 b1 hW1
  go_wp2_with fail
  go_ret
  exact ⟨rfl, b3⟩
/-- A rule, as its numbers. -/
structure Rl where
  fr : Int
  tz : Int
  s : Ad
  sn : Int
  d : Ad
  dn : Int
  pr : Int
  sl : Int
  sh : Int
  dl : Int
  dh : Int
  ac : Int
  he : Int
abbrev Rl.v (r : Rl) : Array Value := #[.int .i64 r.fr, .int .i64 r.tz, .int .i64 r.s.fam, .int .u64 r.s.hi, .int .u64 r.s.lo, .int .i64 r.sn, .int .i64 r.d.fam, .int .u64 r.d.hi, .int .u64 r.d.lo, .int .i64 r.dn, .int .i64 r.pr, .int .i64 r.sl, .int .i64 r.sh, .int .i64 r.dl, .int .i64 r.dh, .int .i64 r.ac, .int .i64 r.he]
structure Rl.ok (r : Rl) : Prop where
  s : r.s.ok
  d : r.d.ok
/-- A key, as its numbers. -/
structure Ky where
  fr : Int
  tz : Int
  s : Ad
  d : Ad
  pr : Int
  sp : Int
  dp : Int
abbrev Ky.v (k : Ky) : Array Value := #[.int .i64 k.fr, .int .i64 k.tz, .int .i64 k.s.fam, .int .u64 k.s.hi, .int .u64 k.s.lo, .int .i64 k.d.fam, .int .u64 k.d.hi, .int .u64 k.d.lo, .int .i64 k.pr, .int .i64 k.sp, .int .i64 k.dp]
structure Ky.ok (k : Ky) : Prop where
  s : k.s.ok
  d : k.d.ok
def inB (n lo hi : Int) : Bool := decide (lo ≤ n) && decide (n ≤ hi)
def zeroP (a : Ad) (n : Int) : Bool := a.fam == 0 && (a.hi == 0 && (a.lo == 0 && n == 0))
def netB (a : Ad) (n : Int) : Bool := zeroP a n || a.rightPrefix n
def hasB (a : Ad) (n : Int) (x : Ad) : Bool := zeroP a n || a.has n x
def portB (lo hi : Int) : Bool := decide (0 ≤ lo) && (decide (lo ≤ hi) && decide (hi ≤ 65535))
def Ky.right (k : Ky) : Bool := inB k.fr 0 15 && (inB k.tz 0 15 && (k.s.right && (k.d.right && ((k.s.fam == k.d.fam) && (inB k.pr 0 255 && (inB k.sp 0 65535 && inB k.dp 0 65535))))))
def Rl.right (r : Rl) : Bool := inB r.fr (-1) 15 && (inB r.tz (-1) 15 && (netB r.s r.sn && (netB r.d r.dn && (inB r.pr 0 255 && (portB r.sl r.sh && (portB r.dl r.dh && ((r.ac == 0 || r.ac == 1) && inB r.he 0 3)))))))
/-- Are the parts of a key those that the rule asks for? -/
def Rl.asks (r : Rl) (k : Ky) : Bool := (decide (r.fr < 0) || r.fr == k.fr) && ((decide (r.tz < 0) || r.tz == k.tz) && (hasB r.s r.sn k.s && (hasB r.d r.dn k.d && ((r.pr == 0 || r.pr == k.pr) && (inB k.sp r.sl r.sh && inB k.dp r.dl r.dh)))))
def Rl.takes (r : Rl) (k : Ky) : Bool := r.right && (k.right && r.asks k)
/-- Is one prefix as wide as another one? -/
def reachB (a : Ad) (n : Int) (b : Ad) (m : Int) : Bool := zeroP a n || (b.rightPrefix m && (decide (n ≤ m) && a.has n b))
/-- Is a rule as wide in each part? -/
def Rl.wider (a b : Rl) : Bool := (decide (a.fr < 0) || a.fr == b.fr) && ((decide (a.tz < 0) || a.tz == b.tz) && (reachB a.s a.sn b.s b.sn && (reachB a.d a.dn b.d b.dn && ((a.pr == 0 || a.pr == b.pr) && (decide (a.sl ≤ b.sl) && (decide (b.sh ≤ a.sh) && (decide (a.dl ≤ b.dl) && decide (b.dh ≤ a.dh))))))))
theorem within_any (n lo hi : Int) (w : World) :
    Calls Tryd.prog 56 #[.int .i64 n, .int .i64 lo, .int .i64 hi] w fun e w' => e = .returned (.bool (inB n lo hi)) ∧ w' = w := by
  go_enter Tryd.func56, Tryd.ntmps56
  by_cases h : lo ≤ n
  · by_cases h' : n ≤ hi
    all_goals (go_wp2; go_ret; exact ⟨by first | (simp [inB, *]; done) | (simp [inB]; omega), rfl⟩)
  · go_wp2; go_ret; exact ⟨by first | (simp [inB, *]; done) | (simp [inB]; omega), rfl⟩
theorem in_any (n lo hi : Int) (w : World) :
    Calls Tryd.prog 53 #[.int .i64 n, .int .i64 lo, .int .i64 hi] w fun e w' => e = .returned (.bool (inB n lo hi)) ∧ w' = w := by
  go_enter Tryd.func53, Tryd.ntmps53
  by_cases h : lo ≤ n
  · by_cases h' : n ≤ hi
    all_goals (go_wp2; go_ret; exact ⟨by first | (simp [inB, *]; done) | (simp [inB]; omega), rfl⟩)
  · go_wp2; go_ret; exact ⟨by first | (simp [inB, *]; done) | (simp [inB]; omega), rfl⟩
theorem every_any (f h l b : Int) (w : World) :
    Calls Tryd.prog 76 #[.agg #[.int .i64 f, .int .u64 h, .int .u64 l, .int .i64 b]] w fun e w' => e = .returned (.bool (zeroP ⟨f, h, l⟩ b)) ∧ Below w.heap.size w w' := by
  go_enter Tryd.func76, Tryd.ntmps76
  go_wp2
  all_goals go_ret
  all_goals exact ⟨by simp [zeroP, *], (Below.refl _ _).alloc (Nat.le_refl _) _⟩
theorem rightPorts_any (lo hi : Int) (w : World) :
    Calls Tryd.prog 58 #[.agg #[.int .i64 lo, .int .i64 hi]] w fun e w' => e = .returned (.bool (portB lo hi)) ∧ Below w.heap.size w w' := by
  go_enter Tryd.func58, Tryd.ntmps58
  by_cases h : 0 ≤ lo
  · by_cases h' : lo ≤ hi
    · by_cases h2 : hi ≤ 65535
      all_goals (go_wp2; go_ret; exact ⟨by first | (simp [portB, *]; done) | (simp [portB]; omega), (Below.refl _ _).alloc (Nat.le_refl _) _⟩)
    · go_wp2; go_ret; exact ⟨by first | (simp [portB, *]; done) | (simp [portB]; omega), (Below.refl _ _).alloc (Nat.le_refl _) _⟩
  · go_wp2; go_ret; exact ⟨by first | (simp [portB, *]; done) | (simp [portB]; omega), (Below.refl _ _).alloc (Nat.le_refl _) _⟩
theorem ports_any (lo hi : Int) (w : World) :
    Calls Tryd.prog 55 #[.agg #[.int .i64 lo, .int .i64 hi]] w fun e w' => e = .returned (.bool (portB lo hi)) ∧ Below w.heap.size w w' := by
  go_enter Tryd.func55, Tryd.ntmps55
  by_cases h : 0 ≤ lo
  · by_cases h' : lo ≤ hi
    · by_cases h2 : hi ≤ 65535
      all_goals (go_wp2; go_ret; exact ⟨by first | (simp [portB, *]; done) | (simp [portB]; omega), (Below.refl _ _).alloc (Nat.le_refl _) _⟩)
    · go_wp2; go_ret; exact ⟨by first | (simp [portB, *]; done) | (simp [portB]; omega), (Below.refl _ _).alloc (Nat.le_refl _) _⟩
  · go_wp2; go_ret; exact ⟨by first | (simp [portB, *]; done) | (simp [portB]; omega), (Below.refl _ _).alloc (Nat.le_refl _) _⟩
theorem rightNet_any (f h l b : Int) (w : World) (ho : Ad.ok ⟨f, h, l⟩) :
    Calls Tryd.prog 57 #[.agg #[.int .i64 f, .int .u64 h, .int .u64 l, .int .i64 b]] w fun e w' => e = .returned (.bool (netB ⟨f, h, l⟩ b)) ∧ Below w.heap.size w w' := by
  have K1 := every_any f h l b
  have K2 := fun W => rightPrefix_any f h l b W ho
  unfold netB
  generalize zeroP ⟨f, h, l⟩ b = z at *
  generalize Ad.rightPrefix ⟨f, h, l⟩ b = p at *
  clear ho
  go_enter Tryd.func57, Tryd.ntmps57
  go_wp2_with fail
  refine (K1 _).mono ?_
  rintro e w1 ⟨rfl, b1⟩
  have k0 := kept b1 (b := w.heap.size) (o := 0) (v := .int .i64 f) (by simp)
  have k1 := kept b1 (b := w.heap.size) (o := 1) (v := .int .u64 h) (by simp)
  have k2 := kept b1 (b := w.heap.size) (o := 2) (v := .int .u64 l) (by simp)
  have k3 := kept b1 (b := w.heap.size) (o := 3) (v := .int .i64 b) (by simp)
  have b2 := bel_tr (bel_nw rfl) b1
  clear b1 K1
  cases z
  · go_wp2_with fail
    refine (K2 _).mono ?_
    rintro e w2 ⟨rfl, b3⟩
    have b4 := bel_tr b2 b3
    clear b3 K2 k0 k1 k2 k3
    go_wp2
    go_ret
    exact ⟨by simp, b4⟩
  · go_wp2_with fail
    go_ret
    exact ⟨by simp, b2⟩
theorem prefix_any (f h l b : Int) (w : World) (ho : Ad.ok ⟨f, h, l⟩) :
    Calls Tryd.prog 54 #[.agg #[.int .i64 f, .int .u64 h, .int .u64 l, .int .i64 b]] w fun e w' => e = .returned (.bool (netB ⟨f, h, l⟩ b)) ∧ Below w.heap.size w w' := by
  have K2 := fun W => rrightPrefix_any f h l b W ho
  unfold netB
  generalize Ad.rightPrefix ⟨f, h, l⟩ b = p at *
  clear ho
  go_enter Tryd.func54, Tryd.ntmps54
  by_cases hz : f = 0 ∧ h = 0 ∧ l = 0 ∧ b = 0
  · obtain ⟨rfl, rfl, rfl, rfl⟩ := hz
    go_wp2_with fail
    go_ret
    exact ⟨by simp [zeroP], (Below.refl _ _).alloc (Nat.le_refl _) _⟩
  · have hz' : zeroP ⟨f, h, l⟩ b = false := by simpa [zeroP] using hz
    rw [hz']
    clear hz'
    have hz4 : f ≠ 0 ∨ (f = 0 ∧ h ≠ 0) ∨ (f = 0 ∧ h = 0 ∧ l ≠ 0) ∨ (f = 0 ∧ h = 0 ∧ l = 0 ∧ b ≠ 0) := by omega
    clear hz
    rcases hz4 with h1 | ⟨rfl, h1⟩ | ⟨rfl, rfl, h1⟩ | ⟨rfl, rfl, rfl, h1⟩
    all_goals go_wp2_with fail
    all_goals (refine (K2 _).mono ?_; rintro e w2 ⟨rfl, b3⟩; have b4 := bel_tr (bel_nw rfl) b3; clear b3 h1; go_wp2; go_ret; exact ⟨by simp, b4⟩)
end Go.Proofs.YtgppfkbapieneaaDoor
