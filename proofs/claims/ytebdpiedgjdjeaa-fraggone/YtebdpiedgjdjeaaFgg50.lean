/- Texts joined: FiN -/
import Derived.Test.YtebdpiedgjdjeaaFgg49
namespace Go.Proofs.Ytebdpiedgjdjeaa
open Go.RowKit
set_option linter.unusedVariables false
set_option linter.unusedSimpArgs false
/-- Two tables from B on, apart; beside the first the blocks P, beside the second the blocks Q. -/
structure Two6 (B : Nat) (P Q : Nat → Prop) (w0 wr : World) (tb mb ub nb : Nat) (s r : Fs) : Prop where
  ex : ∃ G H, TabG wr tb mb s G ∧ TabG wr ub nb r H ∧ (∀ k, foot tb mb G k → B ≤ k) ∧ (∀ k, foot ub nb H k → B ≤ k) ∧ (∀ k, foot tb mb G k → ¬ foot ub nb H k) ∧ (∀ k, P k → ¬ foot tb mb G k) ∧ ∀ k, Q k → ¬ foot ub nb H k
  ltP : ∀ k, P k → k < wr.heap.size
  bel : Below B w0 wr
  le : B ≤ wr.heap.size
theorem Two6.ok {B : Nat} {P Q : Nat → Prop} {w0 wr : World} {tb mb ub nb : Nat} {s r : Fs} (h : Two6 B P Q w0 wr tb mb ub nb s r) : FsOk s ∧ FsOk r := by
  obtain ⟨G, H, T, U, _⟩ := h.ex
  exact ⟨T.ok, U.ok⟩
theorem Two6.below {B : Nat} {P Q P' Q' : Nat → Prop} {w0 wr w' : World} {tb mb ub nb : Nat} {s r : Fs} (h : Two6 B P Q w0 wr tb mb ub nb s r) (b : Below wr.heap.size wr w') (hP : ∀ k, P' k → P k ∨ (wr.heap.size ≤ k ∧ k < w'.heap.size)) (hQ : ∀ k, Q' k → Q k ∨ wr.heap.size ≤ k) : Two6 B P' Q' w0 w' tb mb ub nb s r := by
  obtain ⟨G, H, T, U, h1, h2, h3, h4, h5⟩ := h.ex
  refine ⟨⟨G, H, T.below b, U.below b, h1, h2, h3, fun k hk hF => ?_, fun k hk hF => ?_⟩, fun k hk => ?_, h.bel.trans (b.mono h.le), Nat.le_trans h.le b.size⟩
  · rcases hP k hk with x | x
    · exact h4 k x hF
    · have := T.lt hF; omega
  · rcases hQ k hk with x | x
    · exact h5 k x hF
    · have := U.lt hF; omega
  · rcases hP k hk with x | x
    · exact Nat.lt_of_lt_of_le (h.ltP k x) b.size
    · exact x.2
/-- Put at the first one. -/
theorem Two6.put1 {B : Nat} {P Q : Nat → Prop} {w0 wr : World} {tb mb ub nb : Nat} {s r : Fs} (h : Two6 B P Q w0 wr tb mb ub nb s r) (p : Pkt) (xa : Option Addr) (xc : Nat) (da : Option Addr) (dc : Nat) (hp : PktOk p)
    (hdat : Row wr da p.dat) (hnil : da = none → dc = 0) (hx : RowI wr xa p.X) (hxn : xa = none → xc = 0) :
    Calls Try.prog 17 #[.pointer (some ⟨tb, 0, none⟩), .agg (pkV p xa xc da dc)] wr fun e w' => ∃ xa' xc' da' dc', e = .returned (.tuple #[.agg (pkV (putF s p).2.1 xa' xc' da' dc'), .int .i64 (putF s p).2.2]) ∧ RowI w' xa' (putF s p).2.1.X ∧ Row w' da' (putF s p).2.1.dat ∧ Two6 B P (fun k => Q k ∨ (∃ x, xa' = some x ∧ x.block = k) ∨ ∃ x, da' = some x ∧ x.block = k) w0 w' tb mb ub nb (putF s p).1 r ∧ But (fun k => ¬ P k ∧ B ≤ k) wr w' := by
  obtain ⟨G, H, T, U, h1, h2, h3, h4, h5⟩ := h.ex
  refine (put_any tb mb s G p xa xc da dc wr T hp hdat hnil hx hxn).mono ?_
  rintro e w' ⟨RV, c, rfl, rfl, G', T', hf', hb, xa', xc', da', dc', rfl, r1, r2, r3, r4⟩
  have hl := h.le
  have b : But (fun k => ¬ P k ∧ B ≤ k) wr w' := (But.refl _ wr).trans hb (fun k _ hF => ⟨fun h' => h4 k h' hF, h1 k hF⟩)
  refine ⟨xa', xc', da', dc', rfl, r1, r2, ⟨⟨G', H, T', U.but hb (fun k hk hF => h3 k hF hk), fun k hk => ?_, h2, fun k hk hF => ?_, fun k hk hF => ?_, fun k hk hF => ?_⟩, fun k hk => Nat.lt_of_lt_of_le (h.ltP k hk) b.size, h.bel.trans (b.to_below hl (fun k hk h => by omega)), Nat.le_trans hl b.size⟩, b⟩
  · rcases hf' k hk with x | x
    · exact h1 k x
    · omega
  · rcases hf' k hk with x | x
    · exact h3 k x hF
    · have := U.lt hF; omega
  · rcases hf' k hF with x | x
    · exact h4 k hk x
    · have := h.ltP k hk; omega
  · rcases hk with hk | ⟨x, hx, rfl⟩ | ⟨x, hx, rfl⟩
    · exact h5 k hk hF
    · rcases r3 x hx with y | y
      · have := U.lt hF; omega
      · exact h3 _ y hF
    · have := r4 x hx
      have := U.lt hF; omega
/-- Put at the second one. -/
theorem Two6.put2 {B : Nat} {P Q : Nat → Prop} {w0 wr : World} {tb mb ub nb : Nat} {s r : Fs} (h : Two6 B P Q w0 wr tb mb ub nb s r) (p : Pkt) (xa : Option Addr) (xc : Nat) (da : Option Addr) (dc : Nat) (hp : PktOk p)
    (hdat : Row wr da p.dat) (hnil : da = none → dc = 0) (hx : RowI wr xa p.X) (hxn : xa = none → xc = 0) :
    Calls Try.prog 17 #[.pointer (some ⟨ub, 0, none⟩), .agg (pkV p xa xc da dc)] wr fun e w' => ∃ xa' xc' da' dc', e = .returned (.tuple #[.agg (pkV (putF r p).2.1 xa' xc' da' dc'), .int .i64 (putF r p).2.2]) ∧ RowI w' xa' (putF r p).2.1.X ∧ Row w' da' (putF r p).2.1.dat ∧ Two6 B P (fun _ => False) w0 w' tb mb ub nb s (putF r p).1 ∧ But (fun k => ¬ Q k ∧ B ≤ k) wr w' := by
  obtain ⟨G, H, T, U, h1, h2, h3, h4, h5⟩ := h.ex
  refine (put_any ub nb r H p xa xc da dc wr U hp hdat hnil hx hxn).mono ?_
  rintro e w' ⟨RV, c, rfl, rfl, H', U', hf', hb, xa', xc', da', dc', rfl, r1, r2, r3, r4⟩
  have hl := h.le
  have b : But (fun k => ¬ Q k ∧ B ≤ k) wr w' := (But.refl _ wr).trans hb (fun k _ hF => ⟨fun h' => h5 k h' hF, h2 k hF⟩)
  refine ⟨xa', xc', da', dc', rfl, r1, r2, ⟨⟨G, H', T.but hb (fun k hk hF => h3 k hk hF), U', h1, fun k hk => ?_, fun k hk hF => ?_, h4, fun k hk => hk.elim⟩, fun k hk => Nat.lt_of_lt_of_le (h.ltP k hk) b.size, h.bel.trans (b.to_below hl (fun k hk h => by omega)), Nat.le_trans hl b.size⟩, b⟩
  · rcases hf' k hk with x | x
    · exact h2 k x
    · omega
  · rcases hf' k hF with x | x
    · exact h3 k hk x
    · have := T.lt hk; omega
theorem Two6.tick1 {B : Nat} {P Q : Nat → Prop} {w0 wr : World} {tb mb ub nb : Nat} {s r : Fs} (h : Two6 B P Q w0 wr tb mb ub nb s r) (now : Int) :
    Calls Try.prog 15 #[.pointer (some ⟨tb, 0, none⟩), .int .i64 now] wr fun e w' => e = .returned (.int .i64 (tickF s now).2) ∧ Two6 B P Q w0 w' tb mb ub nb (tickF s now).1 r ∧ But (fun k => ¬ P k ∧ B ≤ k) wr w' := by
  obtain ⟨G, H, T, U, h1, h2, h3, h4, h5⟩ := h.ex
  refine (tick_any tb mb s G now wr T).mono ?_
  rintro e w' ⟨rfl, G', T', hf', hb⟩
  have hl := h.le
  have b : But (fun k => ¬ P k ∧ B ≤ k) wr w' := (But.refl _ wr).trans hb (fun k _ hF => ⟨fun h' => h4 k h' hF, h1 k hF⟩)
  refine ⟨rfl, ⟨⟨G', H, T', U.but hb (fun k hk hF => h3 k hF hk), fun k hk => ?_, h2, fun k hk hF => ?_, fun k hk hF => ?_, h5⟩, fun k hk => Nat.lt_of_lt_of_le (h.ltP k hk) b.size, h.bel.trans (b.to_below hl (fun k hk h => by omega)), Nat.le_trans hl b.size⟩, b⟩
  · rcases hf' k hk with x | x
    · exact h1 k x
    · omega
  · rcases hf' k hk with x | x
    · exact h3 k x hF
    · have := U.lt hF; omega
  · rcases hf' k hF with x | x
    · exact h4 k hk x
    · have := h.ltP k hk; omega
theorem Two6.tick2 {B : Nat} {P Q : Nat → Prop} {w0 wr : World} {tb mb ub nb : Nat} {s r : Fs} (h : Two6 B P Q w0 wr tb mb ub nb s r) (hQ : ∀ k, Q k → k < wr.heap.size) (now : Int) :
    Calls Try.prog 15 #[.pointer (some ⟨ub, 0, none⟩), .int .i64 now] wr fun e w' => e = .returned (.int .i64 (tickF r now).2) ∧ Two6 B P Q w0 w' tb mb ub nb s (tickF r now).1 ∧ But (fun k => ¬ Q k ∧ B ≤ k) wr w' := by
  obtain ⟨G, H, T, U, h1, h2, h3, h4, h5⟩ := h.ex
  refine (tick_any ub nb r H now wr U).mono ?_
  rintro e w' ⟨rfl, H', U', hf', hb⟩
  have hl := h.le
  have b : But (fun k => ¬ Q k ∧ B ≤ k) wr w' := (But.refl _ wr).trans hb (fun k _ hF => ⟨fun h' => h5 k h' hF, h2 k hF⟩)
  refine ⟨rfl, ⟨⟨G, H', T.but hb (fun k hk hF => h3 k hk hF), U', h1, fun k hk => ?_, fun k hk hF => ?_, h4, fun k hk hF => ?_⟩, fun k hk => Nat.lt_of_lt_of_le (h.ltP k hk) b.size, h.bel.trans (b.to_below hl (fun k hk h => by omega)), Nat.le_trans hl b.size⟩, b⟩
  · rcases hf' k hk with x | x
    · exact h2 k x
    · omega
  · rcases hf' k hF with x | x
    · exact h3 k hk x
    · have := T.lt hk; omega
  · rcases hf' k hF with x | x
    · exact h5 k hk x
    · have := hQ k hk; omega
theorem Two6.first {B : Nat} {P Q : Nat → Prop} {w0 wr : World} {tb mb ub nb : Nat} {s r : Fs} (h : Two6 B P Q w0 wr tb mb ub nb s r) :
    (Calls Try.prog 20 #[.pointer (some ⟨tb, 0, none⟩)] wr fun e w' => e = .returned (.int .i64 s.E.length) ∧ w' = wr) ∧ (Calls Try.prog 21 #[.pointer (some ⟨tb, 0, none⟩)] wr fun e w' => e = .returned (.int .i64 s.by_) ∧ w' = wr) ∧ (Calls Try.prog 23 #[.pointer (some ⟨tb, 0, none⟩)] wr fun e w' => e = .returned (.int .i64 s.now) ∧ w' = wr) := by
  obtain ⟨G, H, T, U, _⟩ := h.ex
  exact ⟨tgrams_any tb mb s G wr T, tbytes_any tb mb s G wr T, tnow_any tb mb s G wr T⟩
theorem Two6.second {B : Nat} {P Q : Nat → Prop} {w0 wr : World} {tb mb ub nb : Nat} {s r : Fs} (h : Two6 B P Q w0 wr tb mb ub nb s r) :
    (Calls Try.prog 20 #[.pointer (some ⟨ub, 0, none⟩)] wr fun e w' => e = .returned (.int .i64 r.E.length) ∧ w' = wr) ∧ (Calls Try.prog 21 #[.pointer (some ⟨ub, 0, none⟩)] wr fun e w' => e = .returned (.int .i64 r.by_) ∧ w' = wr) := by
  obtain ⟨G, H, T, U, _⟩ := h.ex
  exact ⟨tgrams_any ub nb r H wr U, tbytes_any ub nb r H wr U⟩
theorem two6_new {B : Nat} {w0 wr w' : World} {tb mb ub nb : Nat} {s r : Fs} (h : TabB B w0 wr tb mb s) (T : TabG w' ub nb r []) (h1 : wr.heap.size ≤ ub) (h2 : wr.heap.size ≤ nb) (b : Below wr.heap.size wr w') : Two6 B (fun _ => False) (fun _ => False) w0 w' tb mb ub nb s r := by
  obtain ⟨G, U, hf⟩ := h.ex
  have hl := h.le
  refine ⟨⟨G, [], U.below b, T, hf, fun k hk => ?_, fun k hk hF => ?_, fun k hk => hk.elim, fun k hk => hk.elim⟩, fun k hk => hk.elim, h.bel.trans (b.mono hl), Nat.le_trans hl b.size⟩
  · rcases hk with rfl | rfl | ⟨p, hp, _⟩
    · omega
    · omega
    · cases hp
  · have := U.lt hk
    rcases hF with rfl | rfl | ⟨p, hp, _⟩
    · omega
    · omega
    · cases hp
/-- What is gone has no part in anything. -/
theorem tick_gone {s : Fs} (h : FsOk s) (hn : ¬ s.now + s.life > 4611684918915760128) : tickF s (s.now + s.life) = (⟨s.most, s.room, s.life, s.now + s.life, 0, []⟩, 0) := by
  have h1 := h.life
  have e : s.E.filter (fun p => decide (s.now + s.life < p.2.ends)) = [] := List.filter_eq_nil_iff.2 (fun p hp => by
    have := (h.each p hp).2
    simp only [decide_eq_true_eq]
    omega)
  unfold tickF
  rw [if_neg (by omega), e]
  rfl
theorem tick_fresh {a b c now : Int} (h0 : 0 ≤ now) (hn : ¬ now > 4611684918915760128) : tickF (fs0 a b c) now = (⟨a, b, c, now, 0, []⟩, 0) := by
  unfold tickF
  rw [if_neg (by simp only; omega)]
  rfl
end Go.Proofs.Ytebdpiedgjdjeaa
