/- Texts joined: FiH FiM FiQ FpM -/
import Derived.Test.YtkeeidfpgfdldaaFpz24
namespace Go.Proofs.Ytkeeidfpgfdldaa
open Go.RowKit
set_option linter.unusedVariables false
set_option linter.unusedSimpArgs false
theorem put_any (tb mb : Nat) (s : Fs) (G : List (Lit × Gm)) (p : Pkt) (xa : Option Addr) (xc : Nat) (da : Option Addr) (dc : Nat) (w : World) (T : TabG w tb mb s G) (hp : PktOk p)
  (hdat : Row w da p.dat) (hnil : da = none → dc = 0) (hx : RowI w xa p.X) (hxn : xa = none → xc = 0) :
  Calls Try.prog 17 #[.pointer (some ⟨tb, 0, none⟩), .agg (pkV p xa xc da dc)] w fun e w' => ∃ RV c, e = .returned (.tuple #[.agg RV, .int .i64 c]) ∧ TakeAt tb mb G (putF s p) w RV c w' := by
 cases hf : p.fg
 ·exact put_plain tb mb s G p xa xc da dc w T hf hdat hnil hx hxn
 ·exact put_frag tb mb s G p xa xc da dc w T hp hf hdat hnil hx hxn
set_option maxRecDepth 100000 in
set_option maxHeartbeats 4000000 in
theorem tick_no (tb mb : Nat) (s : Fs) (G : List (Lit × Gm)) (now : Int) (w : World) (T : TabG w tb mb s G) (h : now < s.now ∨ now > 4611684918915760128) :
  Calls Try.prog 15 #[.pointer (some ⟨tb, 0, none⟩), .int .i64 now] w fun e w' => e = .returned (.int .i64 25) ∧ Below w.heap.size w w' := by
 have K : Hid _ := isMade_at tb true w (T.tab.cell 0 (.bool true) rfl)
 have c4 := T.tab.cell 4 (.int .i64 s.now) rfl
 clear T
 by_cases h1 : now < s.now
 ·go_enter Try.func15, Try.ntmps15
  go_wp2_with fail
  refine Calls.mono K.out ?_
  rintro e w' ⟨rfl, hW'⟩
  rw [hW']
  clear hW' w' K
  go_wp2
  go_ret
  exact ⟨rfl, Below.refl _ _⟩
 ·have h2 : now > 4611684918915760128 := by omega
  go_enter Try.func15, Try.ntmps15
  go_wp2_with fail
  refine Calls.mono K.out ?_
  rintro e w' ⟨rfl, hW'⟩
  rw [hW']
  clear hW' w' K
  go_wp2
  go_ret
  exact ⟨rfl, Below.refl _ _⟩
theorem foot_filter {tb mb : Nat} {G : List (Lit × Gm)} {f : Lit × Gm → Bool} {j : Nat} (h : foot tb mb (G.filter f) j) : foot tb mb G j := by
 rcases h with h | h | ⟨p, hp, h⟩
 ·exact .inl h
 ·exact .inr (.inl h)
 ·exact .inr (.inr ⟨p, (List.mem_filter.1 hp).1, h⟩)
/-- What Tick leaves. -/
theorem tick_any (tb mb : Nat) (s : Fs) (G : List (Lit × Gm)) (now : Int) (w : World) (T : TabG w tb mb s G) :
  Calls Try.prog 15 #[.pointer (some ⟨tb, 0, none⟩), .int .i64 now] w fun e w' => e = .returned (.int .i64 (tickF s now).2) ∧ ∃ G', TabG w' tb mb (tickF s now).1 G' ∧ (∀ k, foot tb mb G' k → foot tb mb G k ∨ w.heap.size ≤ k) ∧ But (foot tb mb G) w w' := by
 by_cases h : now < s.now ∨ now > 4611684918915760128
 ·have e : tickF s now = (s, 25) := by unfold tickF; rw [if_pos h]
  rw [e]
  refine (tick_no tb mb s G now w T h).mono ?_
  rintro e w' ⟨rfl, b⟩
  exact ⟨rfl, G, T.below b, fun k hk => .inl hk, But.of_below b _⟩
 ·have e : (tickF s now).2 = 0 := by unfold tickF; rw [if_neg h]
  rw [e]
  refine (tick_yes tb mb s G now w T (by omega) (by omega)).mono ?_
  rintro e w' ⟨rfl, T', b⟩
  refine ⟨rfl, _, T', fun k hk => .inl (foot_filter hk), (But.refl _ w).trans b (fun k _ h => ?_)⟩
  rcases h with h | h
  ·exact .inl h
  ·exact .inr (.inl h)
/-- May a table be made with these bounds? -/
def capsOk (gr by_ lf : Int) : Prop := 0 ≤ gr ∧ gr ≤ 256 ∧ 0 ≤ by_ ∧ by_ ≤ 1048576 ∧ 1 ≤ lf ∧ lf ≤ 1099511627776
abbrev fs0 (gr by_ lf : Int) : Fs := ⟨gr, by_, lf, 0, 0, []⟩
theorem fs0_ok {gr by_ lf : Int} (h : capsOk gr by_ lf) : FsOk (fs0 gr by_ lf) := by
 obtain ⟨h1, h2, h3, h4, h5, h6⟩ := h
 exact ⟨⟨h1, h2⟩, ⟨h3, h4⟩, ⟨h5, h6⟩, by simp, rfl, h3, by simpa using h1, List.Pairwise.nil, by simp, by simp⟩
theorem new_yes (gr by_ lf : Int) (w : World) (h : capsOk gr by_ lf) :
  Calls Try.prog 12 #[.int .i64 gr, .int .i64 by_, .int .i64 lf] w fun e w' => ∃ tb mb, e = .returned (.tuple #[.pointer (some ⟨tb, 0, none⟩), .int .i64 0]) ∧ TabG w' tb mb (fs0 gr by_ lf) [] ∧ w.heap.size ≤ tb ∧ w.heap.size ≤ mb ∧ Below w.heap.size w w' := by
 have h' := h
 obtain ⟨h1, h2, h3, h4, h5, h6⟩ := h
 refine (new_y gr by_ lf w (by omega) (by omega) (by omega) (by omega) (by omega) (by omega)).mono ?_
 rintro e w' ⟨rfl, rfl⟩
 have e1 : (w.alloc (.map #[] 0)).heap.size = w.heap.size + 1 := by simp
 refine ⟨w.heap.size + 1, w.heap.size, rfl, ⟨rfl, ?_, ?_, by omega, fs0_ok h', by simp, List.Pairwise.nil⟩, by omega, Nat.le_refl _, ?_⟩
 ·have := blk_new (w.alloc (.map #[] 0)) #[.bool true, .int .i64 gr, .int .i64 by_, .int .i64 lf, .int .i64 0, .int .i64 0, .map (some w.heap.size)] 64
  rw [e1] at this
  exact this
 ·exact (ownsG_new w).alloc _
 ·exact ((Below.refl _ _).alloc (Nat.le_refl _) _).alloc (by simp) _
theorem new_no (gr by_ lf : Int) (w : World) (h : ¬ capsOk gr by_ lf) :
  Calls Try.prog 12 #[.int .i64 gr, .int .i64 by_, .int .i64 lf] w fun e w' => e = .returned (.tuple #[.pointer none, .int .i64 1]) ∧ w' = w := by
 by_cases h0 : gr < 0
 ·exact new_n0 gr by_ lf w h0
 by_cases h1 : gr > 256
 ·exact new_n1 gr by_ lf w h0 h1
 by_cases h2 : by_ < 0
 ·exact new_n2 gr by_ lf w h0 h1 h2
 by_cases h3 : by_ > 1048576
 ·exact new_n3 gr by_ lf w h0 h1 h2 h3
 by_cases h4 : lf < 1
 ·exact new_n4 gr by_ lf w h0 h1 h2 h3 h4
 by_cases h5 : lf > 1099511627776
 ·exact new_n5 gr by_ lf w h0 h1 h2 h3 h4 h5
 exact absurd ⟨by omega, by omega, by omega, by omega, by omega, by omega⟩ h
theorem tgrams_any (tb mb : Nat) (s : Fs) (G : List (Lit × Gm)) (w : World) (T : TabG w tb mb s G) :
  Calls Try.prog 20 #[.pointer (some ⟨tb, 0, none⟩)] w fun e w' => e = .returned (.int .i64 s.E.length) ∧ w' = w := by
 have h := fGrams_at tb mb G.length (toD G) w (T.tab.cell 0 (.bool true) rfl) (T.tab.cell 6 (.map (some mb)) rfl) T.map
 have e : (Maps.size (toD G) : Int) = s.E.length := by rw [toD_size, T.abs]; simp
 rw [e] at h
 exact h
theorem tbytes_any (tb mb : Nat) (s : Fs) (G : List (Lit × Gm)) (w : World) (T : TabG w tb mb s G) :
  Calls Try.prog 21 #[.pointer (some ⟨tb, 0, none⟩)] w fun e w' => e = .returned (.int .i64 s.by_) ∧ w' = w :=
 fBytes_at tb s.by_ w (T.tab.cell 0 (.bool true) rfl) (T.tab.cell 5 (.int .i64 s.by_) rfl)
theorem tnow_any (tb mb : Nat) (s : Fs) (G : List (Lit × Gm)) (w : World) (T : TabG w tb mb s G) :
  Calls Try.prog 23 #[.pointer (some ⟨tb, 0, none⟩)] w fun e w' => e = .returned (.int .i64 s.now) ∧ w' = w :=
 fNow_at tb s.now w (T.tab.cell 0 (.bool true) rfl) (T.tab.cell 4 (.int .i64 s.now) rfl)
/-- A table whose blocks lie from B on, in a world that is w0 below B. -/
structure TabB (B : Nat) (w0 wr : World) (tb mb : Nat) (s : Fs) : Prop where
 ex : ∃ G, TabG wr tb mb s G ∧ ∀ k, foot tb mb G k → B ≤ k
 bel : Below B w0 wr
 le : B ≤ wr.heap.size
theorem TabB.ok {B : Nat} {w0 wr : World} {tb mb : Nat} {s : Fs} (h : TabB B w0 wr tb mb s) : FsOk s := by obtain ⟨G, T, _⟩ := h.ex; exact T.ok
theorem TabB.below {B : Nat} {w0 wr w' : World} {tb mb : Nat} {s : Fs} (h : TabB B w0 wr tb mb s) (b : Below wr.heap.size wr w') : TabB B w0 w' tb mb s := by
 obtain ⟨G, T, hf⟩ := h.ex
 exact ⟨⟨G, T.below b, hf⟩, h.bel.trans (b.mono h.le), Nat.le_trans h.le b.size⟩
theorem TabB.put {B : Nat} {w0 wr : World} {tb mb : Nat} {s : Fs} (h : TabB B w0 wr tb mb s) (p : Pkt) (xa : Option Addr) (xc : Nat) (da : Option Addr) (dc : Nat) (hp : PktOk p)
  (hdat : Row wr da p.dat) (hnil : da = none → dc = 0) (hx : RowI wr xa p.X) (hxn : xa = none → xc = 0) :
  Calls Try.prog 17 #[.pointer (some ⟨tb, 0, none⟩), .agg (pkV p xa xc da dc)] wr fun e w' => ∃ xa' xc' da' dc', e = .returned (.tuple #[.agg (pkV (putF s p).2.1 xa' xc' da' dc'), .int .i64 (putF s p).2.2]) ∧ TabB B w0 w' tb mb (putF s p).1 ∧ RowI w' xa' (putF s p).2.1.X ∧ Row w' da' (putF s p).2.1.dat ∧ (∀ x, da' = some x → wr.heap.size ≤ x.block) ∧ (∀ x, xa' = some x → B ≤ x.block) ∧ Below B wr w' := by
 obtain ⟨G, T, hf⟩ := h.ex
 refine (put_any tb mb s G p xa xc da dc wr T hp hdat hnil hx hxn).mono ?_
 rintro e w' ⟨RV, c, rfl, rfl, G', T', hf', hb, xa', xc', da', dc', rfl, r1, r2, r3, r4⟩
 have hl := h.le
 have b : Below B wr w' := hb.to_below h.le (fun k hk hF => by have := hf k hF; omega)
 refine ⟨xa', xc', da', dc', rfl, ⟨⟨G', T', fun k hk => ?_⟩, h.bel.trans b, Nat.le_trans hl b.size⟩, r1, r2, r4, fun x hx => ?_, b⟩
 ·rcases hf' k hk with x | x
  ·exact hf k x
  ·omega
 ·rcases r3 x hx with y | y
  ·omega
  ·exact hf _ y
theorem TabB.tick {B : Nat} {w0 wr : World} {tb mb : Nat} {s : Fs} (h : TabB B w0 wr tb mb s) (now : Int) :
  Calls Try.prog 15 #[.pointer (some ⟨tb, 0, none⟩), .int .i64 now] wr fun e w' => e = .returned (.int .i64 (tickF s now).2) ∧ TabB B w0 w' tb mb (tickF s now).1 ∧ Below B wr w' := by
 obtain ⟨G, T, hf⟩ := h.ex
 refine (tick_any tb mb s G now wr T).mono ?_
 rintro e w' ⟨rfl, G', T', hf', hb⟩
 have hl := h.le
 have b : Below B wr w' := hb.to_below h.le (fun k hk hF => by have := hf k hF; omega)
 refine ⟨rfl, ⟨⟨G', T', fun k hk => ?_⟩, h.bel.trans b, Nat.le_trans hl b.size⟩, b⟩
 rcases hf' k hk with x | x
 ·exact hf k x
 ·omega
theorem TabB.grams {B : Nat} {w0 wr : World} {tb mb : Nat} {s : Fs} (h : TabB B w0 wr tb mb s) : Calls Try.prog 20 #[.pointer (some ⟨tb, 0, none⟩)] wr fun e w' => e = .returned (.int .i64 s.E.length) ∧ w' = wr := by
 obtain ⟨G, T, hf⟩ := h.ex
 exact tgrams_any tb mb s G wr T
theorem TabB.bytes {B : Nat} {w0 wr : World} {tb mb : Nat} {s : Fs} (h : TabB B w0 wr tb mb s) : Calls Try.prog 21 #[.pointer (some ⟨tb, 0, none⟩)] wr fun e w' => e = .returned (.int .i64 s.by_) ∧ w' = wr := by
 obtain ⟨G, T, hf⟩ := h.ex
 exact tbytes_any tb mb s G wr T
theorem TabB.now {B : Nat} {w0 wr : World} {tb mb : Nat} {s : Fs} (h : TabB B w0 wr tb mb s) : Calls Try.prog 23 #[.pointer (some ⟨tb, 0, none⟩)] wr fun e w' => e = .returned (.int .i64 s.now) ∧ w' = wr := by
 obtain ⟨G, T, hf⟩ := h.ex
 exact tnow_any tb mb s G wr T
theorem tabB_new (gr by_ lf : Int) (w : World) (h : capsOk gr by_ lf) :
  Calls Try.prog 12 #[.int .i64 gr, .int .i64 by_, .int .i64 lf] w fun e w' => ∃ tb mb, e = .returned (.tuple #[.pointer (some ⟨tb, 0, none⟩), .int .i64 0]) ∧ TabB w.heap.size w w' tb mb (fs0 gr by_ lf) := by
 refine (new_yes gr by_ lf w h).mono ?_
 rintro e w' ⟨tb, mb, rfl, T, h1, h2, b⟩
 refine ⟨tb, mb, rfl, ⟨⟨[], T, fun k hk => ?_⟩, b, b.size⟩⟩
 rcases hk with rfl | rfl | ⟨p, hp, _⟩
 ·exact h1
 ·exact h2
 ·cases hp
/-- A table from B on, beside the blocks P. -/
structure TabP (B : Nat) (P : Nat → Prop) (w0 wr : World) (tb mb : Nat) (s : Fs) : Prop where
 ex : ∃ G, TabG wr tb mb s G ∧ (∀ k, foot tb mb G k → B ≤ k) ∧ ∀ k, P k → ¬ foot tb mb G k
 lt : ∀ k, P k → k < wr.heap.size
 bel : Below B w0 wr
 le : B ≤ wr.heap.size
theorem TabP.ok {B : Nat} {P : Nat → Prop} {w0 wr : World} {tb mb : Nat} {s : Fs} (h : TabP B P w0 wr tb mb s) : FsOk s := by obtain ⟨G, T, _⟩ := h.ex; exact T.ok
theorem TabB.toP {B : Nat} {w0 wr : World} {tb mb : Nat} {s : Fs} (h : TabB B w0 wr tb mb s) : TabP B (fun _ => False) w0 wr tb mb s := by
 obtain ⟨G, T, hf⟩ := h.ex
 exact ⟨⟨G, T, hf, fun _ h => h.elim⟩, fun _ h => h.elim, h.bel, h.le⟩
theorem TabP.below {B : Nat} {P : Nat → Prop} {w0 wr w' : World} {tb mb : Nat} {s : Fs} (h : TabP B P w0 wr tb mb s) (b : Below wr.heap.size wr w') : TabP B P w0 w' tb mb s := by
 obtain ⟨G, T, hf, hp⟩ := h.ex
 exact ⟨⟨G, T.below b, hf, hp⟩, fun k hk => Nat.lt_of_lt_of_le (h.lt k hk) b.size, h.bel.trans (b.mono h.le), Nat.le_trans h.le b.size⟩
/-- Blocks that are new may be set apart. -/
theorem TabP.add {B : Nat} {P P' : Nat → Prop} {w0 wr w' : World} {tb mb : Nat} {s : Fs} (h : TabP B P w0 wr tb mb s) (b : Below wr.heap.size wr w') (hP : ∀ k, P' k → P k ∨ (wr.heap.size ≤ k ∧ k < w'.heap.size)) : TabP B P' w0 w' tb mb s := by
 obtain ⟨G, T, hf, hp⟩ := h.ex
 refine ⟨⟨G, T.below b, hf, fun k hk hF => ?_⟩, fun k hk => ?_, h.bel.trans (b.mono h.le), Nat.le_trans h.le b.size⟩
 ·rcases hP k hk with x | x
  ·exact hp k x hF
  ·have := T.lt hF
   omega
 ·rcases hP k hk with x | x
  ·exact Nat.lt_of_lt_of_le (h.lt k x) b.size
  ·exact x.2
/-- Blocks that were set apart may be written. -/
theorem TabP.but {B : Nat} {P F : Nat → Prop} {w0 wr w' : World} {tb mb : Nat} {s : Fs} (h : TabP B P w0 wr tb mb s) (b : But F wr w') (hF : ∀ k, F k → P k ∧ B ≤ k) : TabP B P w0 w' tb mb s := by
 obtain ⟨G, T, hf, hp⟩ := h.ex
 refine ⟨⟨G, T.but b (fun k hk h => hp k (hF k h).1 hk), hf, hp⟩, fun k hk => Nat.lt_of_lt_of_le (h.lt k hk) b.size, h.bel.trans (b.to_below h.le (fun k hk h => by have := (hF k h).2; omega)), Nat.le_trans h.le b.size⟩
theorem TabP.put {B : Nat} {P : Nat → Prop} {w0 wr : World} {tb mb : Nat} {s : Fs} (h : TabP B P w0 wr tb mb s) (p : Pkt) (xa : Option Addr) (xc : Nat) (da : Option Addr) (dc : Nat) (hp : PktOk p)
  (hdat : Row wr da p.dat) (hnil : da = none → dc = 0) (hx : RowI wr xa p.X) (hxn : xa = none → xc = 0) :
  Calls Try.prog 17 #[.pointer (some ⟨tb, 0, none⟩), .agg (pkV p xa xc da dc)] wr fun e w' => ∃ xa' xc' da' dc', e = .returned (.tuple #[.agg (pkV (putF s p).2.1 xa' xc' da' dc'), .int .i64 (putF s p).2.2]) ∧ TabP B P w0 w' tb mb (putF s p).1 ∧ RowI w' xa' (putF s p).2.1.X ∧ Row w' da' (putF s p).2.1.dat ∧ (∀ x, da' = some x → wr.heap.size ≤ x.block) ∧ (∀ x, xa' = some x → B ≤ x.block ∧ ¬ P x.block) ∧ But (fun k => ¬ P k ∧ B ≤ k) wr w' := by
 obtain ⟨G, T, hf, hP⟩ := h.ex
 refine (put_any tb mb s G p xa xc da dc wr T hp hdat hnil hx hxn).mono ?_
 rintro e w' ⟨RV, c, rfl, rfl, G', T', hf', hb, xa', xc', da', dc', rfl, r1, r2, r3, r4⟩
 have hl := h.le
 have b : But (fun k => ¬ P k ∧ B ≤ k) wr w' := (But.refl _ wr).trans hb (fun k _ hF => ⟨fun h' => hP k h' hF, hf k hF⟩)
 refine ⟨xa', xc', da', dc', rfl, ⟨⟨G', T', fun k hk => ?_, fun k hk hF => ?_⟩, fun k hk => Nat.lt_of_lt_of_le (h.lt k hk) b.size, h.bel.trans (b.to_below hl (fun k hk h => by omega)), Nat.le_trans hl b.size⟩, r1, r2, r4, fun x hx => ?_, b⟩
 ·rcases hf' k hk with x | x
  ·exact hf k x
  ·omega
 ·rcases hf' k hF with x | x
  ·exact hP k hk x
  ·have := h.lt k hk
   omega
 ·rcases r3 x hx with y | y
  ·exact ⟨by omega, fun h' => by have := h.lt _ h'; omega⟩
  ·exact ⟨hf _ y, fun h' => hP _ h' y⟩
theorem TabP.tick {B : Nat} {P : Nat → Prop} {w0 wr : World} {tb mb : Nat} {s : Fs} (h : TabP B P w0 wr tb mb s) (now : Int) :
  Calls Try.prog 15 #[.pointer (some ⟨tb, 0, none⟩), .int .i64 now] wr fun e w' => e = .returned (.int .i64 (tickF s now).2) ∧ TabP B P w0 w' tb mb (tickF s now).1 ∧ But (fun k => ¬ P k ∧ B ≤ k) wr w' := by
 obtain ⟨G, T, hf, hP⟩ := h.ex
 refine (tick_any tb mb s G now wr T).mono ?_
 rintro e w' ⟨rfl, G', T', hf', hb⟩
 have hl := h.le
 have b : But (fun k => ¬ P k ∧ B ≤ k) wr w' := (But.refl _ wr).trans hb (fun k _ hF => ⟨fun h' => hP k h' hF, hf k hF⟩)
 refine ⟨rfl, ⟨⟨G', T', fun k hk => ?_, fun k hk hF => ?_⟩, fun k hk => Nat.lt_of_lt_of_le (h.lt k hk) b.size, h.bel.trans (b.to_below hl (fun k hk h => by omega)), Nat.le_trans hl b.size⟩, b⟩
 ·rcases hf' k hk with x | x
  ·exact hf k x
  ·omega
 ·rcases hf' k hF with x | x
  ·exact hP k hk x
  ·have := h.lt k hk
   omega
theorem TabP.grams {B : Nat} {P : Nat → Prop} {w0 wr : World} {tb mb : Nat} {s : Fs} (h : TabP B P w0 wr tb mb s) : Calls Try.prog 20 #[.pointer (some ⟨tb, 0, none⟩)] wr fun e w' => e = .returned (.int .i64 s.E.length) ∧ w' = wr := by
 obtain ⟨G, T, hf⟩ := h.ex
 exact tgrams_any tb mb s G wr T
theorem TabP.bytes {B : Nat} {P : Nat → Prop} {w0 wr : World} {tb mb : Nat} {s : Fs} (h : TabP B P w0 wr tb mb s) : Calls Try.prog 21 #[.pointer (some ⟨tb, 0, none⟩)] wr fun e w' => e = .returned (.int .i64 s.by_) ∧ w' = wr := by
 obtain ⟨G, T, hf⟩ := h.ex
 exact tbytes_any tb mb s G wr T
def One (data : List Int) (s : Fs) (A : List Pkt) : Prop := (A = [] ∧ s.E = []) ∨ (A ≠ [] ∧ ∃ g, s.E = [(KN, g)] ∧ Got data A g)
theorem One.waits {data : List Int} {s : Fs} {A : List Pkt} (h : One data s A) : Waits data KN s A := by
 rcases h with ⟨h1, h2⟩ | ⟨_, g, h1, h2⟩
 ·exact .inl ⟨h1, by rw [h2]; rfl⟩
 ·refine .inr ⟨g, ?_, h2⟩
  rw [h1]
  simp [look, WideAt.sameKey_self keyLit_own]
theorem One.by_ {data : List Int} {s : Fs} {A : List Pkt} (h : One data s A) (hs : FsOk s) : s.by_ = sumA (A.map pcP) := by
 rw [hs.by_]
 rcases h with ⟨h1, h2⟩ | ⟨_, g, h1, h2⟩
 ·rw [h2, h1]; rfl
 ·rw [h1, ← h2.size]; simp [sizes]
theorem One.few {data : List Int} {s : Fs} {A : List Pkt} (h : One data s A) (hm : 1 ≤ s.most) : A = [] → (s.E.length : Int) < s.most := fun hA => by
 rcases h with ⟨_, h2⟩ | ⟨h1, _⟩
 ·rw [h2]; simp; omega
 ·exact absurd hA h1
theorem nodup_sub {α : Type} : ∀ (l N : List α), l.Pairwise (· ≠ ·) → (∀ x ∈ l, x ∈ N) → l.length ≤ N.length
 | [], _, _, _ => by simp
 | x :: r, N, h, hs => by
  obtain ⟨h1, h2⟩ := List.pairwise_cons.1 h
  obtain ⟨a, b, rfl⟩ := List.append_of_mem (hs x (by simp))
  have := nodup_sub r (a ++ b) h2 (fun y hy => by
   rcases List.mem_append.1 (hs y (by simp [hy])) with h | h
   ·exact List.mem_append.2 (.inl h)
   ·rcases List.mem_cons.1 h with rfl | h
    ·exact absurd rfl (h1 y hy)
    ·exact List.mem_append.2 (.inr h))
  simp only [List.length_append, List.length_cons] at this ⊢
  omega
/-- The fragments A wait; T bytes of others at most, and no names but these. -/
structure Ap (data : List Int) (names : List Lit) (s : Fs) (A : List Pkt) (t : Int) : Prop where
 waits : Waits data KN s A
 by_ : s.by_ ≤ sumA (A.map pcP) + t
 keys : ∀ e ∈ s.E, e.1 ∈ names
 most : s.most = 200
 room : s.room = 1048576
theorem Ap.few {data : List Int} {names : List Lit} {s : Fs} {A : List Pkt} {t : Int} (h : Ap data names s A t) (hs : FsOk s) : s.E.length ≤ names.length := by
 have := nodup_sub (s.E.map (·.1)) names (List.pairwise_map.2 hs.keys) (fun x hx => by
  obtain ⟨e, he, rfl⟩ := List.mem_map.1 hx
  exact h.keys e he)
 simpa using this
/-- A packet of a datagram's name. -/
def DgIn.nmP (g : DgIn) : Pkt := ⟨4, g.ns, g.nd, g.np, 0, false, g.ni, 0, false, [], []⟩
/-- A datagram in memory, told plainly. -/
def DgIn.dg (g : DgIn) : Dg := ⟨nameK g.nmP, g.ps.map (·.p), g.ends, g.dead⟩
theorem lenG_dg : ∀ L : List DgIn, lenG L = bytesD (L.map DgIn.dg)
 | [] => rfl
 | g :: L => by
  have := lenG_dg L
  simp only [lenG, List.map_cons, bytesD, this]
  rfl
theorem kept_dg (now : Int) (L : List DgIn) : (keptL now L).map DgIn.dg = (L.map DgIn.dg).filter fun d => decide (now < d.ends) := by
 unfold keptL
 rw [List.filter_map]
 rfl
theorem clash_dg (g : DgIn) (p : Pkt) : (g.ps.any fun q => clash1 p q.p) = clashD g.dg.ps p := by
 unfold clashD DgIn.dg
 rw [List.any_map]
 rfl
theorem name_dg {p q : Pkt} (hp : PktOk p) (hq : PktOk q) : nameK p = nameK q ↔ nameA p = nameA q := by
 constructor
 ·intro e
  have h1 := key_any p hp
  rw [e] at h1
  have h2 := keyGram.inj h1 (key_any q hq)
  exact Value.agg.inj h2
 ·intro e
  have h1 := key_any p hp
  have h2 := key_any q hq
  rw [e, h2] at h1
  exact (Option.some.inj h1).symm
/-- A table in memory, told plainly. -/
def docD (mo ro li cl : Int) (L : List DgIn) : Dt := ⟨mo, ro, li, cl, L.map DgIn.dg⟩
theorem tick_dg (mo ro li cl now : Int) (L : List DgIn) (h : ¬ (now < cl ∨ now > 4611684918915760128)) : tickD (docD mo ro li cl L) now = (docD mo ro li now (keptL now L), 0) := by
 unfold tickD docD
 rw [if_neg h, kept_dg]
theorem tick_no_dg (mo ro li cl now : Int) (L : List DgIn) (h : now < cl ∨ now > 4611684918915760128) : tickD (docD mo ro li cl L) now = (docD mo ro li cl L, 25) := by
 unfold tickD docD
 rw [if_pos h]
end Go.Proofs.Ytkeeidfpgfdldaa
