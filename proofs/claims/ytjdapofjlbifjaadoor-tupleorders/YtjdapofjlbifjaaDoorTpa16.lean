/- Texts joined: RMsk RHasB FrA TuC -/
import Derived.Test.YtjdapofjlbifjaaDoorTpa12
import Derived.Test.YtjdapofjlbifjaaDoorTpa15
import Derived.Deep.DeepCutAuto
namespace Go.Proofs.YtjdapofjlbifjaaDoor
open Go.RowKit
set_option linter.unusedVariables false
set_option linter.unusedSimpArgs false
theorem num2_shift (h l : Int) (h0 : 0 ≤ h) (l0 : 0 ≤ l) (l1 : l < 18446744073709551616) : num2 (h / 256) (l / 256 + h * 72057594037927936 % 18446744073709551616) = num2 h l / 256 := by
  unfold num2
  omega
theorem bytesGo_get : ∀ (n : Nat) (h l : Int) (i : Nat), i < n → 0 ≤ h → 0 ≤ l → l < 18446744073709551616 → (bytesGo n h l).getD i 0 = num2 h l / 256 ^ (n - 1 - i) % 256
  | 0, _, _, _, hi, _, _, _ => by omega
  | n + 1, h, l, i, hi, h0, l0, l1 => by
    unfold bytesGo
    have hlen : (bytesGo n (h / 256) (l / 256 + h * 72057594037927936 % 18446744073709551616)).length = n := bytesGo_length ..
    by_cases e : i = n
    · subst e
      rw [List.getD_eq_getElem?_getD, List.getElem?_append_right (by omega), hlen]
      simp only [Nat.sub_self, List.getElem?_cons_zero, Option.getD_some, Nat.add_sub_cancel, Int.pow_zero, Int.ediv_one]
      unfold num2
      omega
    · rw [List.getD_eq_getElem?_getD, List.getElem?_append_left (by omega), ← List.getD_eq_getElem?_getD]
      rw [bytesGo_get n _ _ i (by omega) (by omega) (by omega) (by omega), num2_shift h l h0 l0 l1]
      rw [Int.ediv_ediv_of_nonneg (by decide)]
      have : n + 1 - 1 - i = (n - 1 - i) + 1 := by omega
      rw [this, Int.pow_succ, Int.mul_comm]
set_option maxRecDepth 100000 in
set_option maxHeartbeats 4000000 in
theorem rbytes_no (f h l : Int) (w : World) (ho : Ad.ok ⟨f, h, l⟩) (hr : Ad.right ⟨f, h, l⟩ = false) :
    Calls Tryd.prog 47 #[.agg #[.int .i64 f, .int .u64 h, .int .u64 l]] w fun e w' => e = .returned (.slice none 0 0) ∧ Below w.heap.size w w' := by
  obtain ⟨W1, hW1⟩ : ∃ W1, w.alloc (.cells #[.int .i64 f, .int .u64 h, .int .u64 l] 24) = W1 := ⟨_, rfl⟩
  have b1 := bel_nw hW1
  have P1 := blk_nw hW1
  have KR : Hid (∀ W, Calls Tryd.prog 36 #[.agg #[.int .i64 f, .int .u64 h, .int .u64 l]] W fun e w' => e = .returned (.bool false) ∧ Below W.heap.size W w') := fun W => by
    have := rright_any f h l W ho.2.2.1
    rw [hr] at this
    exact Calls.mono this (by rintro e w' ⟨rfl, rfl⟩; exact ⟨rfl, (Below.refl _ _).alloc (Nat.le_refl _) _⟩)
  clear hr
  go_enter Tryd.func47, Tryd.ntmps47
  go_wp2_with (refine wpList_load_row rfl _ _ rfl w.heap.size (by rfl) _ _ _ _ P1 Tryd.underlying24 rfl (by kernel_rfl) ?_)
  refine Calls.mono (KR.out _) ?_
  rintro e W3 ⟨rfl, bb⟩
  have b3 := bel_tr b1 bb
  clear KR bb P1 b1 hW1
  go_wp2_with fail
  go_ret
  exact ⟨rfl, b3⟩
theorem rbytes_any (f h l : Int) (w : World) (ho : Ad.ok ⟨f, h, l⟩) :
    Calls Tryd.prog 47 #[.agg #[.int .i64 f, .int .u64 h, .int .u64 l]] w fun e w' => ∃ a c, e = .returned (.slice a (Ad.bytes ⟨f, h, l⟩).length c) ∧ Fresh w w' a c (Ad.bytes ⟨f, h, l⟩) := by
  cases hr : Ad.right ⟨f, h, l⟩ with
  | true => exact rbytes_right f h l w ho hr
  | false =>
    have e : Ad.bytes ⟨f, h, l⟩ = [] := by unfold Ad.bytes; rw [if_neg (by rw [hr]; decide)]
    rw [e]
    refine Calls.mono (rbytes_no f h l w ho hr) ?_
    rintro e w' ⟨rfl, hb⟩
    exact ⟨none, 0, rfl, fresh_nil hb⟩
/-- A rule, as its numbers. -/
structure Rl where
  fr : Int
  tz : Int
  s : Ad
  sn : Int
  d : Ad
  dn : Int
  pr : Int
  sl : Int
  sh : Int
  dl : Int
  dh : Int
  ac : Int
  he : Int
abbrev Rl.v (r : Rl) : Array Value := #[.int .i64 r.fr, .int .i64 r.tz, .int .i64 r.s.fam, .int .u64 r.s.hi, .int .u64 r.s.lo, .int .i64 r.sn, .int .i64 r.d.fam, .int .u64 r.d.hi, .int .u64 r.d.lo, .int .i64 r.dn, .int .i64 r.pr, .int .i64 r.sl, .int .i64 r.sh, .int .i64 r.dl, .int .i64 r.dh, .int .i64 r.ac, .int .i64 r.he]
structure Rl.ok (r : Rl) : Prop where
  s : r.s.ok
  d : r.d.ok
/-- A key, as its numbers. -/
structure Ky where
  fr : Int
  tz : Int
  s : Ad
  d : Ad
  pr : Int
  sp : Int
  dp : Int
abbrev Ky.v (k : Ky) : Array Value := #[.int .i64 k.fr, .int .i64 k.tz, .int .i64 k.s.fam, .int .u64 k.s.hi, .int .u64 k.s.lo, .int .i64 k.d.fam, .int .u64 k.d.hi, .int .u64 k.d.lo, .int .i64 k.pr, .int .i64 k.sp, .int .i64 k.dp]
structure Ky.ok (k : Ky) : Prop where
  s : k.s.ok
  d : k.d.ok
def inB (n lo hi : Int) : Bool := decide (lo ≤ n) && decide (n ≤ hi)
def zeroP (a : Ad) (n : Int) : Bool := a.fam == 0 && (a.hi == 0 && (a.lo == 0 && n == 0))
def netB (a : Ad) (n : Int) : Bool := zeroP a n || a.rightPrefix n
def portB (lo hi : Int) : Bool := decide (0 ≤ lo) && (decide (lo ≤ hi) && decide (hi ≤ 65535))
def Ky.right (k : Ky) : Bool := inB k.fr 0 15 && (inB k.tz 0 15 && (k.s.right && (k.d.right && ((k.s.fam == k.d.fam) && (inB k.pr 0 255 && (inB k.sp 0 65535 && inB k.dp 0 65535))))))
def Rl.right (r : Rl) : Bool := inB r.fr (-1) 15 && (inB r.tz (-1) 15 && (netB r.s r.sn && (netB r.d r.dn && (inB r.pr 0 255 && (portB r.sl r.sh && (portB r.dl r.dh && ((r.ac == 0 || r.ac == 1) && inB r.he 0 3)))))))
set_option maxRecDepth 100000 in
set_option maxHeartbeats 1000000 in
theorem rrev_t (t : Wy) (w : World) :
    Calls Tryd.prog 12 #[.agg t.v] w fun e w' => e = .returned (.agg t.rev.v) ∧ Below w.heap.size w w' := by
  obtain ⟨f, pr, ⟨sf, sh, sl⟩, ⟨df, dh, dl⟩, sp, dp⟩ := t
  go_enter Tryd.func12, Tryd.ntmps12
  go_wp2
  exact ret_cell (k := 2) Tryd.f12 (by kernel_rfl) (blk_two _ _ _ _) Tryd.underlying26 (by kernel_rfl) (by rfl) rfl ⟨rfl, bel_two _ _ _⟩
set_option maxRecDepth 100000 in
set_option maxHeartbeats 1000000 in
theorem rev_t (t : Wy) (w : World) :
    Calls Tryd.prog 11 #[.agg t.v] w fun e w' => e = .returned (.agg t.rev.v) ∧ Below w.heap.size w w' := by
  obtain ⟨f, pr, ⟨sf, sh, sl⟩, ⟨df, dh, dl⟩, sp, dp⟩ := t
  go_enter Tryd.func11, Tryd.ntmps11
  go_wp2
  exact ret_cell (k := 2) Tryd.f11 (by kernel_rfl) (blk_two _ _ _ _) Tryd.underlying26 (by kernel_rfl) (by rfl) rfl ⟨rfl, bel_two _ _ _⟩
theorem blk_mid (w : World) (X Y : Obj) (cs : Array Value) (t : TypeId) : Blk (((w.alloc X).alloc (.cells cs t)).alloc Y) (w.heap.size + 1) t cs := (blk_two w X cs t).alloc _
/-- The key that a way is classified by. -/
def Wy.key (t : Wy) (kind code fr tz : Int) : Ky := if t.pr = 1 ∨ t.pr = 58 then ⟨fr, tz, t.s, t.d, t.pr, kind, code⟩ else ⟨fr, tz, t.s, t.d, t.pr, t.sp, t.dp⟩
set_option maxRecDepth 100000 in
set_option maxHeartbeats 1000000 in
theorem key_t (t : Wy) (a b c d : Int) (w : World) :
    Calls Tryd.prog 18 #[.agg t.v, .int .i64 a, .int .i64 b, .int .i64 c, .int .i64 d] w fun e w' => e = .returned (.agg (t.key a b c d).v) ∧ Below w.heap.size w w' := by
  obtain ⟨f, pr, ⟨sf, sh, sl⟩, ⟨df, dh, dl⟩, sp, dp⟩ := t
  by_cases h1 : pr = 1
  · subst h1
    go_enter Tryd.func18, Tryd.ntmps18
    go_wp2
    exact ret_cell (k := 10) Tryd.f18 (by kernel_rfl) (blk_mid _ _ _ _ _) Tryd.underlying34 (by kernel_rfl) (by rfl) rfl ⟨rfl, bel_three _ _ _ _⟩
  by_cases h2 : pr = 58
  · subst h2
    clear h1
    go_enter Tryd.func18, Tryd.ntmps18
    go_wp2
    exact ret_cell (k := 10) Tryd.f18 (by kernel_rfl) (blk_mid _ _ _ _ _) Tryd.underlying34 (by kernel_rfl) (by rfl) rfl ⟨rfl, bel_three _ _ _ _⟩
  · have e : Wy.key ⟨f, pr, ⟨sf, sh, sl⟩, ⟨df, dh, dl⟩, sp, dp⟩ a b c d = ⟨c, d, ⟨sf, sh, sl⟩, ⟨df, dh, dl⟩, pr, sp, dp⟩ := if_neg (by simp; omega)
    rw [e]
    have n1 : (pr == 1) = false := by simpa using h1
    have n2 : (pr == 58) = false := by simpa using h2
    clear e h1 h2
    go_enter Tryd.func18, Tryd.ntmps18
    go_wp2
    exact ret_cell (k := 10) Tryd.f18 (by kernel_rfl) (blk_mid _ _ _ _ _) Tryd.underlying34 (by kernel_rfl) (by rfl) rfl ⟨rfl, bel_three _ _ _ _⟩
set_option maxRecDepth 100000 in
set_option maxHeartbeats 1000000 in
theorem rkey_t (t : Wy) (a b c d : Int) (w : World) :
    Calls Tryd.prog 19 #[.agg t.v, .int .i64 a, .int .i64 b, .int .i64 c, .int .i64 d] w fun e w' => e = .returned (.agg (t.key a b c d).v) ∧ Below w.heap.size w w' := by
  obtain ⟨f, pr, ⟨sf, sh, sl⟩, ⟨df, dh, dl⟩, sp, dp⟩ := t
  by_cases h1 : pr = 1
  · subst h1
    go_enter Tryd.func19, Tryd.ntmps19
    go_wp2
    exact ret_cell (k := 10) Tryd.f19 (by kernel_rfl) (blk_mid _ _ _ _ _) Tryd.underlying34 (by kernel_rfl) (by rfl) rfl ⟨rfl, bel_three _ _ _ _⟩
  by_cases h2 : pr = 58
  · subst h2
    clear h1
    go_enter Tryd.func19, Tryd.ntmps19
    go_wp2
    exact ret_cell (k := 10) Tryd.f19 (by kernel_rfl) (blk_mid _ _ _ _ _) Tryd.underlying34 (by kernel_rfl) (by rfl) rfl ⟨rfl, bel_three _ _ _ _⟩
  · have e : Wy.key ⟨f, pr, ⟨sf, sh, sl⟩, ⟨df, dh, dl⟩, sp, dp⟩ a b c d = ⟨c, d, ⟨sf, sh, sl⟩, ⟨df, dh, dl⟩, pr, sp, dp⟩ := if_neg (by simp; omega)
    rw [e]
    have n1 : (pr == 1) = false := by simpa using h1
    have n2 : (pr == 58) = false := by simpa using h2
    clear e h1 h2
    go_enter Tryd.func19, Tryd.ntmps19
    go_wp2
    exact ret_cell (k := 10) Tryd.f19 (by kernel_rfl) (blk_mid _ _ _ _ _) Tryd.underlying34 (by kernel_rfl) (by rfl) rfl ⟨rfl, bel_three _ _ _ _⟩
end Go.Proofs.YtjdapofjlbifjaaDoor
