/- Texts joined: Ip6B -/
import Derived.Test.YtmnkdogdligckaaIp6zb10
import Derived.Deep.AppendLies
import Derived.Deep.RegionLaw
import Derived.Maps.OwnOps
namespace Go.Proofs.Ytmnkdogdligckaa
open Go.RowKit
set_option linter.unusedVariables false
set_option linter.unusedSimpArgs false
/-- The eight cells of a walk. -/
structure SW (W : World) (g : Nat) (s : St) (rv xv : Value) : Prop where
  c0 : W.cell? ⟨g, 0, none⟩ = some (.int .i64 s.next)
  c1 : W.cell? ⟨g, 1, none⟩ = some rv
  c2 : W.cell? ⟨g, 2, none⟩ = some xv
  c3 : W.cell? ⟨g, 3, none⟩ = some (.bool s.met)
  c4 : W.cell? ⟨g, 4, none⟩ = some (.bool s.cut)
  c5 : W.cell? ⟨g, 5, none⟩ = some (.int .u32 s.id)
  c6 : W.cell? ⟨g, 6, none⟩ = some (.int .i64 s.off)
  c7 : W.cell? ⟨g, 7, none⟩ = some (.bool s.more)
  fz : ∀ o, W.frozen? ⟨g, o, none⟩ = false
theorem SW.lt {W : World} {g : Nat} {s : St} {rv xv : Value} (h : SW W g s rv xv) : g < W.heap.size := World.block_lt_of_cell? W _ h.c0
theorem SW.grown {W W' : World} {g : Nat} {s : St} {rv xv : Value} {row : Option Nat} (h : SW W g s rv xv) (hg : W.grownBy W' row) (hne : some g ≠ row) : SW W' g s rv xv :=
  have k : ∀ o, W'.cell? ⟨g, o, none⟩ = W.cell? ⟨g, o, none⟩ := fun o => hg.cell_far ⟨g, o, none⟩ h.lt hne
  ⟨(k _).trans h.c0, (k _).trans h.c1, (k _).trans h.c2, (k _).trans h.c3, (k _).trans h.c4, (k _).trans h.c5, (k _).trans h.c6, (k _).trans h.c7, fun o => (hg.frozen_far ⟨g, o, none⟩ h.lt hne).trans (h.fz o)⟩
theorem SW.below {W W' : World} {g B : Nat} {s : St} {rv xv : Value} (h : SW W g s rv xv) (hg : g < B) (hb : Below B W W') : SW W' g s rv xv :=
  have k : ∀ o, W'.cell? ⟨g, o, none⟩ = W.cell? ⟨g, o, none⟩ := fun o => hb.cell (p := ⟨g, o, none⟩) hg
  ⟨(k _).trans h.c0, (k _).trans h.c1, (k _).trans h.c2, (k _).trans h.c3, (k _).trans h.c4, (k _).trans h.c5, (k _).trans h.c6, (k _).trans h.c7, fun o => (hb.frozen (p := ⟨g, o, none⟩) hg).trans (h.fz o)⟩
theorem grownBy_setCell (w : World) (g o : Nat) (v : Value) : w.grownBy (w.setCell ⟨g, o, none⟩ v) (some g) :=
  have b := (Below.refl 0 w).setCell (p := ⟨g, o, none⟩) (Nat.zero_le _) v
  ⟨b.os, b.tape, b.output, b.size, fun i hi hne => Below.heap_setCell _ _ _ _ (fun e => hne (by rw [e]))⟩
theorem grownBy_drewN (w : World) (n : Nat) (row : Option Nat) : w.grownBy (w.drewN n) row := ⟨rfl, rfl, rfl, Nat.le_refl _, fun _ _ _ => rfl⟩
theorem u16_bd {l : List Int} (hb : M.Bytes l) (x : Int) : 0 ≤ u16 l x ∧ u16 l x ≤ 65535 := by
  have h1 := hb.get x.toNat
  have h2 := hb.get (x.toNat + 1)
  unfold u16
  omega
theorem SW.frag {W : World} {g : Nat} {nx : Int} {l ex : List Int} {met cut : Bool} {id off : Int} {more : Bool} {rv xv : Value} (h : SW W g ⟨nx, l, ex, met, cut, id, off, more⟩ rv xv) (i o : Int) (m k : Bool) :
    SW ((((W.setCell ⟨g, 5, none⟩ (.int .u32 i)).setCell ⟨g, 6, none⟩ (.int .i64 o)).setCell ⟨g, 7, none⟩ (.bool m)).setCell ⟨g, 4, none⟩ (.bool k)) g ⟨nx, l, ex, met, k, i, o, m⟩ rv xv := by
  obtain ⟨c0, c1, c2, c3, c4, c5, c6, c7, fz⟩ := h
  refine ⟨?_, ?_, ?_, ?_, ?_, ?_, ?_, ?_, fun o => by simp only [World.frozen?_setCell]; exact fz o⟩
  · rw [put_oth (by decide), put_oth (by decide), put_oth (by decide), put_oth (by decide)]; exact c0
  · rw [put_oth (by decide), put_oth (by decide), put_oth (by decide), put_oth (by decide)]; exact c1
  · rw [put_oth (by decide), put_oth (by decide), put_oth (by decide), put_oth (by decide)]; exact c2
  · rw [put_oth (by decide), put_oth (by decide), put_oth (by decide), put_oth (by decide)]; exact c3
  · exact put_same (by rw [put_oth (by decide), put_oth (by decide), put_oth (by decide)]; exact c4)
  · rw [put_oth (by decide), put_oth (by decide), put_oth (by decide)]; exact put_same c5
  · rw [put_oth (by decide), put_oth (by decide)]; exact put_same (by rw [put_oth (by decide)]; exact c6)
  · rw [put_oth (by decide)]; exact put_same (by rw [put_oth (by decide), put_oth (by decide)]; exact c7)
set_option maxHeartbeats 1000000 in
theorem fragment_any (g : Nat) (s : St) (rv xv : Value) (a : Option Addr) (c : Nat) (h : List Int) (W0 w : World) (hS : SW w g s rv xv) (hr : Row W0 a h) (hg : W0.heap.size ≤ g) (hb : Below W0.heap.size W0 w) (hl : h.length = 8) (hm : s.met = false) :
    Calls Try.prog 61 #[.pointer (some ⟨g, 0, none⟩), .slice a h.length c] w fun e w' => e = .returned (.int .i64 0) ∧ SW w' g { s with met := true, id := u32 h 4, off := u16 h 2 / 8 * 8, more := decide (u16 h 2 % 2 = 1), cut := decide (u16 h 2 / 8 * 8 ≠ 0) || decide (u16 h 2 % 2 = 1) } rv xv ∧ w.grownBy w' (some g) := by
  obtain ⟨c0, c1, c2, c3, c4, c5, c6, c7, fz⟩ := hS
  obtain ⟨nx, l, ex, met, cut, id, off, more⟩ := s
  simp only at hm c0 c1 c2 c3 c4 c5 c6 c7
  subst hm
  have f3 := fz 3
  have ub := u16_bd hr.bytes 2
  have e1 := i64_and65528 _ ub.1 ub.2
  have e2 := i64_and1 _ ub.1 ub.2
  have g1 := grownBy_setCell w g 3 (.bool true)
  have b1 := hb.setCell (p := ⟨g, 3, none⟩) hg (.bool true)
  obtain ⟨W1, hW1⟩ : ∃ W1, w.setCell ⟨g, 3, none⟩ (.bool true) = W1 := ⟨_, rfl⟩
  have S1 : SW W1 g ⟨nx, l, ex, true, cut, id, off, more⟩ rv xv := by
    rw [← hW1]
    exact ⟨(put_oth (by decide)).trans c0, (put_oth (by decide)).trans c1, (put_oth (by decide)).trans c2, put_same c3, (put_oth (by decide)).trans c4, (put_oth (by decide)).trans c5, (put_oth (by decide)).trans c6, (put_oth (by decide)).trans c7, fun o => by rw [World.frozen?_setCell]; exact fz o⟩
  rw [hW1] at g1 b1
  have r1 := hr.below b1
  have hl8 : (8 : Int) ≤ (h.length : Int) := by omega
  clear hl c0 c1 c2 c4 c5 c6 c7 hr
  go_enter Try.func61, Try.ntmps61
  go_wp2_with fail
  refine (u16_yes _ _ _ _ _ r1 (by decide) (by omega)).mono ?_
  rintro e w' ⟨rfl, n, rfl⟩
  have g2 := grownBy_drewN W1 n (some g)
  have b2 := below_drewN b1 n
  have S2 : SW (W1.drewN n) g ⟨nx, l, ex, true, cut, id, off, more⟩ rv xv := S1.grown (grownBy_drewN W1 n none) (by simp)
  have r2 := r1.drewN n
  obtain ⟨W2, hW2⟩ : ∃ W2, W1.drewN n = W2 := ⟨_, rfl⟩
  rw [hW2] at g2 b2 S2 r2 ⊢
  have G2 := g1.trans g2
  clear hW2 hW1 g1 g2 b1 S1 r1 c3 f3 fz
  go_wp2_with fail
  refine (u32_yes _ _ _ _ _ r2 (by decide) (by omega)).mono ?_
  rintro e w' ⟨rfl, n', rfl⟩
  have g3 := grownBy_drewN W2 n' (some g)
  have S3 : SW (W2.drewN n') g ⟨nx, l, ex, true, cut, id, off, more⟩ rv xv := S2.grown (grownBy_drewN W2 n' none) (by simp)
  obtain ⟨W3, hW3⟩ : ∃ W3, W2.drewN n' = W3 := ⟨_, rfl⟩
  rw [hW3] at g3 S3 ⊢
  have G3 := G2.trans g3
  clear hW3 G2 g3 S2 r2 b2
  have F3 := fun i o m k => S3.frag i o m k
  obtain ⟨c0, c1, c2, c3, c4, c5, c6, c7, fz⟩ := S3
  have FF : Hid _ := F3
  clear F3
  have f4 := fz 4
  have f5 := fz 5
  have f6 := fz 6
  have f7 := fz 7
  clear hb hg
  generalize hX : u16 h 2 = x at *
  have hm1 : (x % 2 != 0) = decide (x % 2 = 1) := by
    have h' : x % 2 = 0 ∨ x % 2 = 1 := by omega
    rcases h' with h' | h' <;> simp [h']
  by_cases hx : x / 8 * 8 = 0
  · have hx' : (x / 8 * 8 != 0) = false := by simpa using hx
    go_wp2
    go_ret
    refine ⟨rfl, ?_, (((G3.trans (grownBy_setCell _ _ _ _)).trans (grownBy_setCell _ _ _ _)).trans (grownBy_setCell _ _ _ _)).trans (grownBy_setCell _ _ _ _)⟩
    have := FF.out (u32 h 4) 0 (decide (x % 2 = 1)) (decide (x % 2 = 1))
    simpa [hX, hx] using this
  · have hx' : (x / 8 * 8 != 0) = true := by simpa using hx
    go_wp2
    go_ret
    refine ⟨rfl, ?_, (((G3.trans (grownBy_setCell _ _ _ _)).trans (grownBy_setCell _ _ _ _)).trans (grownBy_setCell _ _ _ _)).trans (grownBy_setCell _ _ _ _)⟩
    have := FF.out (u32 h 4) (x / 8 * 8) (decide (x % 2 = 1)) true
    simpa [hX, hx] using this
set_option maxHeartbeats 1000000 in
theorem looks1_any (g bx : Nat) (s : St) (rv : Value) (xa : Option Addr) (xc : Nat) (a : Option Addr) (c : Nat) (h : List Int) (w : World) (hS : SW w g s rv (.slice xa s.ex.length xc)) (hbx : w.cell? ⟨bx, 0, none⟩ = some (.pointer (some ⟨g, 0, none⟩)))
    (hr : Row w a h) (hl : 8 ≤ h.length) (hc : h.length ≤ c) (hcm : c ≤ 9223372036854775807) :
    Calls Try.prog 58 #[.slice a h.length c, .pointer (some ⟨bx, 0, none⟩)] w fun e w' => e = .returned (.int .i64 (if s.met = true ∨ 0 < s.ex.length then 7 else opt6 (h.drop 2))) ∧ w' = w := by
  obtain ⟨c0, c1, c2, c3, c4, c5, c6, c7, fz⟩ := hS
  clear c0 c1 c4 c5 c6 c7 fz
  generalize s.ex.length = n at *
  cases hm : s.met with
  | true =>
    rw [hm] at c3
    rw [if_pos (.inl rfl)]
    go_enter Try.func58, Try.ntmps58
    go_wp2
    go_ret
    exact ⟨rfl, rfl⟩
  | false =>
    rw [hm] at c3
    by_cases hn : 0 < n
    · rw [if_pos (.inr hn)]
      have hn' : (n : Int) > 0 := by omega
      go_enter Try.func58, Try.ntmps58
      go_wp2
      go_ret
      exact ⟨rfl, rfl⟩
    · rw [if_neg (by simp; omega)]
      have hn' : ¬ (n : Int) > 0 := by omega
      go_enter Try.func58, Try.ntmps58
      go_wp2_with (go_at_call 59; refine (options6_any _ _ _ _ hr hl hc hcm).mono ?_; rintro e w' ⟨rfl, rfl⟩)
      go_ret
      exact ⟨rfl, rfl⟩
end Go.Proofs.Ytmnkdogdligckaa
