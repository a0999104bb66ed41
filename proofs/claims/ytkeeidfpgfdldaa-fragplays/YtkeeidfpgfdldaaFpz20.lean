/- Texts joined: Ord EnB FiD -/
import Derived.Test.YtkeeidfpgfdldaaFpz10
import Derived.Deep.RegionHeld3
namespace Go.Proofs.Ytkeeidfpgfdldaa
open Go.RowKit
set_option linter.unusedVariables false
set_option linter.unusedSimpArgs false
theorem rright_any (f h l : Int) (w : World) (hl : 0 ≤ l) :
  Calls Try.prog 49 #[.agg #[.int .i64 f, .int .u64 h, .int .u64 l]] w fun e w' => e = .returned (.bool (Ad.right ⟨f, h, l⟩)) ∧ w' = w.alloc (.cells #[.int .i64 f, .int .u64 h, .int .u64 l] 37) := by
 go_enter Try.func49, Try.ntmps49
 by_cases h6 : f = 6
 ·subst h6
  go_wp2
  go_ret
  exact ⟨by simp [Ad.right], rfl⟩
 ·by_cases h4 : f = 4
  ·subst h4
   by_cases hh : h = 0
   ·subst hh
    go_wp2
    go_ret
    refine ⟨?_, rfl⟩
    have e : decide (l < 4294967296) = (l / 4294967296 == 0) := by
     rw [Bool.eq_iff_iff]; simp; omega
    simp [Ad.right, e]
   ·go_wp2
    go_ret
    exact ⟨by simp [Ad.right, hh], rfl⟩
  ·go_wp2
   go_ret
   exact ⟨by simp [Ad.right, h4, h6], rfl⟩
def endsB (f : Int) (s d : Ad) : Bool := s.right && (d.right && (s.fam == f && d.fam == f))
theorem endsB_iff (f : Int) (s d : Ad) : endsB f s d = true ↔ s.right = true ∧ d.right = true ∧ s.fam = f ∧ d.fam = f := by simp [endsB]
theorem fam_46' {f : Int} {s d : Ad} (h : endsB f s d = true) : f = 4 ∨ f = 6 := by
 obtain ⟨h1, _, h3, _⟩ := (endsB_iff f s d).1 h
 unfold Ad.right at h1
 split at h1
 ·omega
 ·simp at h1; omega
theorem retB {a b : Bool} (h : a = b) : Ending.returned (.bool a) = Ending.returned (.bool b) := by rw [h]
set_option maxRecDepth 100000 in
set_option maxHeartbeats 4000000 in
theorem rEnds_4 (f sf sh sl df dh dl : Int) (w : World) (hsl : 0 ≤ sl) (hdl : 0 ≤ dl) (hf : f = 4) :
  Calls Try.prog 35 #[.int .i64 f, .agg #[.int .i64 sf, .int .u64 sh, .int .u64 sl], .agg #[.int .i64 df, .int .u64 dh, .int .u64 dl]] w fun e w' => e = .returned (.bool (endsB f ⟨sf, sh, sl⟩ ⟨df, dh, dl⟩)) ∧ Below w.heap.size w w' := by
 obtain ⟨W1, hW1⟩ : ∃ W1, w.alloc (.cells #[.int .i64 sf, .int .u64 sh, .int .u64 sl] 37) = W1 := ⟨_, rfl⟩
 obtain ⟨W2, hW2⟩ : ∃ W2, W1.alloc (.cells #[.int .i64 df, .int .u64 dh, .int .u64 dl] 37) = W2 := ⟨_, rfl⟩
 have b1 : Below w.heap.size w W1 := by rw [← hW1]; exact (Below.refl _ _).alloc (Nat.le_refl _) _
 have b2 : Below w.heap.size w W2 := by rw [← hW2]; exact b1.alloc b1.size _
 have B1' : Blk W1 w.heap.size 37 #[.int .i64 sf, .int .u64 sh, .int .u64 sl] := by rw [← hW1]; exact blk_new _ _ _
 have B1 : Blk W2 w.heap.size 37 #[.int .i64 sf, .int .u64 sh, .int .u64 sl] := by rw [← hW2]; exact B1'.alloc _
 have B2 : Blk W2 W1.heap.size 37 #[.int .i64 df, .int .u64 dh, .int .u64 dl] := by rw [← hW2]; exact blk_new _ _ _
 have g1 : w.heap.size < W1.heap.size := B1'.lt
 have s2 : W2.heap.size = W1.heap.size + 1 := by rw [← hW2]; simp
 clear B1'
 have c0 := B1.cell 0 (.int .i64 sf) rfl
 have c1 := B1.cell 1 (.int .u64 sh) rfl
 have c2 := B1.cell 2 (.int .u64 sl) rfl
 have d0 := B2.cell 0 (.int .i64 df) rfl
 have d1 := B2.cell 1 (.int .u64 dh) rfl
 have d2 := B2.cell 2 (.int .u64 dl) rfl
 have E : Hid (endsB f ⟨sf, sh, sl⟩ ⟨df, dh, dl⟩ = (Ad.right ⟨sf, sh, sl⟩ && (Ad.right ⟨df, dh, dl⟩ && (sf == f && df == f)))) := rfl
 have K1 : Hid (∀ W, Calls Try.prog 49 #[.agg #[.int .i64 sf, .int .u64 sh, .int .u64 sl]] W _) := fun W => rright_any sf sh sl W hsl
 have K2 : Hid (∀ W, Calls Try.prog 49 #[.agg #[.int .i64 df, .int .u64 dh, .int .u64 dl]] W _) := fun W => rright_any df dh dl W hdl
 generalize Ad.right ⟨sf, sh, sl⟩ = R1 at *
 generalize Ad.right ⟨df, dh, dl⟩ = R2 at *
 generalize endsB f ⟨sf, sh, sl⟩ ⟨df, dh, dl⟩ = RR at *
 have h4' : (f == 4) = true := by simpa using hf
 clear hf
 by_cases hs : sf = f
 case neg =>
  have hs' : (sf == f) = false := by simpa using hs
  have e : RR = false := by rw [E.out, hs']; simp
  subst e
  clear hs
  go_enter Try.func35, Try.ntmps35
  go_wp2
  go_ret
  exact ⟨rfl, b2⟩
 have hs' : (sf == f) = true := by simpa using hs
 by_cases hd : df = f
 case neg =>
  have hd' : (df == f) = false := by simpa using hd
  have e : RR = false := by rw [E.out, hd']; simp
  subst e
  clear hs hd
  go_enter Try.func35, Try.ntmps35
  go_wp2
  go_ret
  exact ⟨rfl, b2⟩
 have hd' : (df == f) = true := by simpa using hd
 have E2 : Hid (RR = (R1 && R2)) := by
  have : RR = (R1 && R2) := by rw [E.out, hs', hd']; simp
  exact this
 clear hs hd E
 go_enter Try.func35, Try.ntmps35
 go_wp2_with fail
 refine Calls.mono (K1.out _) ?_
 rintro e W3 ⟨rfl, hW3⟩
 have b3' : Below W2.heap.size W2 W3 := by rw [hW3]; exact (Below.refl _ _).alloc (Nat.le_refl _) _
 have b3 : Below w.heap.size w W3 := b2.trans (b3'.mono b2.size)
 have k0 := kept b3' d0
 have k1 := kept b3' d1
 have k2 := kept b3' d2
 clear K1 hW3 b3' hW1 hW2 c0 c1 c2 d0 d1 d2
 cases R1 with
 | false =>
  go_wp2
  go_ret
  exact ⟨retB (by rw [E2.out]; rfl), b3⟩
 | true =>
  go_wp2_with fail
  refine Calls.mono (K2.out _) ?_
  rintro e W4 ⟨rfl, hW4⟩
  have b4' : Below W3.heap.size W3 W4 := by rw [hW4]; exact (Below.refl _ _).alloc (Nat.le_refl _) _
  have b4 : Below w.heap.size w W4 := b3.trans (b4'.mono b3.size)
  clear K2 hW4 b4' k0 k1 k2
  go_wp2
  go_ret
  exact ⟨retB (by rw [E2.out]; rfl), b4⟩
set_option maxRecDepth 100000 in
set_option maxHeartbeats 4000000 in
theorem rEnds_6 (f sf sh sl df dh dl : Int) (w : World) (hsl : 0 ≤ sl) (hdl : 0 ≤ dl) (hf : f = 6) :
  Calls Try.prog 35 #[.int .i64 f, .agg #[.int .i64 sf, .int .u64 sh, .int .u64 sl], .agg #[.int .i64 df, .int .u64 dh, .int .u64 dl]] w fun e w' => e = .returned (.bool (endsB f ⟨sf, sh, sl⟩ ⟨df, dh, dl⟩)) ∧ Below w.heap.size w w' := by
 obtain ⟨W1, hW1⟩ : ∃ W1, w.alloc (.cells #[.int .i64 sf, .int .u64 sh, .int .u64 sl] 37) = W1 := ⟨_, rfl⟩
 obtain ⟨W2, hW2⟩ : ∃ W2, W1.alloc (.cells #[.int .i64 df, .int .u64 dh, .int .u64 dl] 37) = W2 := ⟨_, rfl⟩
 have b1 : Below w.heap.size w W1 := by rw [← hW1]; exact (Below.refl _ _).alloc (Nat.le_refl _) _
 have b2 : Below w.heap.size w W2 := by rw [← hW2]; exact b1.alloc b1.size _
 have B1' : Blk W1 w.heap.size 37 #[.int .i64 sf, .int .u64 sh, .int .u64 sl] := by rw [← hW1]; exact blk_new _ _ _
 have B1 : Blk W2 w.heap.size 37 #[.int .i64 sf, .int .u64 sh, .int .u64 sl] := by rw [← hW2]; exact B1'.alloc _
 have B2 : Blk W2 W1.heap.size 37 #[.int .i64 df, .int .u64 dh, .int .u64 dl] := by rw [← hW2]; exact blk_new _ _ _
 have g1 : w.heap.size < W1.heap.size := B1'.lt
 have s2 : W2.heap.size = W1.heap.size + 1 := by rw [← hW2]; simp
 clear B1'
 have c0 := B1.cell 0 (.int .i64 sf) rfl
 have c1 := B1.cell 1 (.int .u64 sh) rfl
 have c2 := B1.cell 2 (.int .u64 sl) rfl
 have d0 := B2.cell 0 (.int .i64 df) rfl
 have d1 := B2.cell 1 (.int .u64 dh) rfl
 have d2 := B2.cell 2 (.int .u64 dl) rfl
 have E : Hid (endsB f ⟨sf, sh, sl⟩ ⟨df, dh, dl⟩ = (Ad.right ⟨sf, sh, sl⟩ && (Ad.right ⟨df, dh, dl⟩ && (sf == f && df == f)))) := rfl
 have K1 : Hid (∀ W, Calls Try.prog 49 #[.agg #[.int .i64 sf, .int .u64 sh, .int .u64 sl]] W _) := fun W => rright_any sf sh sl W hsl
 have K2 : Hid (∀ W, Calls Try.prog 49 #[.agg #[.int .i64 df, .int .u64 dh, .int .u64 dl]] W _) := fun W => rright_any df dh dl W hdl
 generalize Ad.right ⟨sf, sh, sl⟩ = R1 at *
 generalize Ad.right ⟨df, dh, dl⟩ = R2 at *
 generalize endsB f ⟨sf, sh, sl⟩ ⟨df, dh, dl⟩ = RR at *
 have h4' : (f == 4) = false := by rw [hf]; rfl
 have h6' : (f == 6) = true := by simpa using hf
 clear hf
 by_cases hs : sf = f
 case neg =>
  have hs' : (sf == f) = false := by simpa using hs
  have e : RR = false := by rw [E.out, hs']; simp
  subst e
  clear hs
  go_enter Try.func35, Try.ntmps35
  go_wp2
  go_ret
  exact ⟨rfl, b2⟩
 have hs' : (sf == f) = true := by simpa using hs
 by_cases hd : df = f
 case neg =>
  have hd' : (df == f) = false := by simpa using hd
  have e : RR = false := by rw [E.out, hd']; simp
  subst e
  clear hs hd
  go_enter Try.func35, Try.ntmps35
  go_wp2
  go_ret
  exact ⟨rfl, b2⟩
 have hd' : (df == f) = true := by simpa using hd
 have E2 : Hid (RR = (R1 && R2)) := by
  have : RR = (R1 && R2) := by rw [E.out, hs', hd']; simp
  exact this
 clear hs hd E
 go_enter Try.func35, Try.ntmps35
 go_wp2_with fail
 refine Calls.mono (K1.out _) ?_
 rintro e W3 ⟨rfl, hW3⟩
 have b3' : Below W2.heap.size W2 W3 := by rw [hW3]; exact (Below.refl _ _).alloc (Nat.le_refl _) _
 have b3 : Below w.heap.size w W3 := b2.trans (b3'.mono b2.size)
 have k0 := kept b3' d0
 have k1 := kept b3' d1
 have k2 := kept b3' d2
 clear K1 hW3 b3' hW1 hW2 c0 c1 c2 d0 d1 d2
 cases R1 with
 | false =>
  go_wp2
  go_ret
  exact ⟨retB (by rw [E2.out]; rfl), b3⟩
 | true =>
  go_wp2_with fail
  refine Calls.mono (K2.out _) ?_
  rintro e W4 ⟨rfl, hW4⟩
  have b4' : Below W3.heap.size W3 W4 := by rw [hW4]; exact (Below.refl _ _).alloc (Nat.le_refl _) _
  have b4 : Below w.heap.size w W4 := b3.trans (b4'.mono b3.size)
  clear K2 hW4 b4' k0 k1 k2
  go_wp2
  go_ret
  exact ⟨retB (by rw [E2.out]; rfl), b4⟩
set_option maxRecDepth 100000 in
set_option maxHeartbeats 4000000 in
theorem rEnds_n (f sf sh sl df dh dl : Int) (w : World) (hsl : 0 ≤ sl) (hdl : 0 ≤ dl) (h4 : ¬ f = 4) (h6 : ¬ f = 6) :
  Calls Try.prog 35 #[.int .i64 f, .agg #[.int .i64 sf, .int .u64 sh, .int .u64 sl], .agg #[.int .i64 df, .int .u64 dh, .int .u64 dl]] w fun e w' => e = .returned (.bool (endsB f ⟨sf, sh, sl⟩ ⟨df, dh, dl⟩)) ∧ Below w.heap.size w w' := by
 obtain ⟨W1, hW1⟩ : ∃ W1, w.alloc (.cells #[.int .i64 sf, .int .u64 sh, .int .u64 sl] 37) = W1 := ⟨_, rfl⟩
 obtain ⟨W2, hW2⟩ : ∃ W2, W1.alloc (.cells #[.int .i64 df, .int .u64 dh, .int .u64 dl] 37) = W2 := ⟨_, rfl⟩
 have b1 : Below w.heap.size w W1 := by rw [← hW1]; exact (Below.refl _ _).alloc (Nat.le_refl _) _
 have b2 : Below w.heap.size w W2 := by rw [← hW2]; exact b1.alloc b1.size _
 have B1' : Blk W1 w.heap.size 37 #[.int .i64 sf, .int .u64 sh, .int .u64 sl] := by rw [← hW1]; exact blk_new _ _ _
 have B1 : Blk W2 w.heap.size 37 #[.int .i64 sf, .int .u64 sh, .int .u64 sl] := by rw [← hW2]; exact B1'.alloc _
 have B2 : Blk W2 W1.heap.size 37 #[.int .i64 df, .int .u64 dh, .int .u64 dl] := by rw [← hW2]; exact blk_new _ _ _
 have g1 : w.heap.size < W1.heap.size := B1'.lt
 have s2 : W2.heap.size = W1.heap.size + 1 := by rw [← hW2]; simp
 clear B1'
 have c0 := B1.cell 0 (.int .i64 sf) rfl
 have c1 := B1.cell 1 (.int .u64 sh) rfl
 have c2 := B1.cell 2 (.int .u64 sl) rfl
 have d0 := B2.cell 0 (.int .i64 df) rfl
 have d1 := B2.cell 1 (.int .u64 dh) rfl
 have d2 := B2.cell 2 (.int .u64 dl) rfl
 have e : endsB f ⟨sf, sh, sl⟩ ⟨df, dh, dl⟩ = false := by
  cases h : endsB f ⟨sf, sh, sl⟩ ⟨df, dh, dl⟩ with
  | false => rfl
  | true => rcases fam_46' h with h' | h' <;> contradiction
 rw [e]
 have h4' : (f == 4) = false := by simpa using h4
 have h6' : (f == 6) = false := by simpa using h6
 clear h4 h6 e
 go_enter Try.func35, Try.ntmps35
 go_wp2
 go_ret
 exact ⟨rfl, b2⟩
theorem rEnds_any (f sf sh sl df dh dl : Int) (w : World) (hsl : 0 ≤ sl) (hdl : 0 ≤ dl) :
  Calls Try.prog 35 #[.int .i64 f, .agg #[.int .i64 sf, .int .u64 sh, .int .u64 sl], .agg #[.int .i64 df, .int .u64 dh, .int .u64 dl]] w fun e w' => e = .returned (.bool (endsB f ⟨sf, sh, sl⟩ ⟨df, dh, dl⟩)) ∧ Below w.heap.size w w' := by
 by_cases h4 : f = 4
 ·exact rEnds_4 f sf sh sl df dh dl w hsl hdl h4
 by_cases h6 : f = 6
 ·exact rEnds_6 f sf sh sl df dh dl w hsl hdl h6
 ·exact rEnds_n f sf sh sl df dh dl w hsl hdl h4 h6
abbrev pcP (p : Pkt) : Int × List Int := (p.of, p.dat)
structure OneOf (data : List Int) (K : Lit) (p : Pkt) : Prop where
 fg : p.fg = true
 right : wrongP p = 0
 name : nameK p = K
 dat : p.dat = (data.drop p.of.toNat).take p.dat.length
 lies : p.of + p.dat.length ≤ data.length
 last : p.mo = false → p.of + p.dat.length = data.length
abbrev apP (p q : Pkt) : Prop := apA (pcP p) (pcP q) ∧ (p.mo = true ∨ q.mo = true)
theorem apP_sym (p q : Pkt) (h : apP p q) : apP q p := ⟨h.1.symm, h.2.symm⟩
structure Part (data : List Int) (K : Lit) (L : List Pkt) : Prop where
 each : ∀ p ∈ L, OneOf data K p
 pair : L.Pairwise apP
 sum : sumA (L.map pcP) = data.length
 last : ∃ p ∈ L, p.mo = false
theorem sumA_perm {a b : List (Int × List Int)} (h : a.Perm b) : sumA a = sumA b := by
 induction h with
 | nil => rfl
 | cons x _ ih => simp only [sumA, ih]
 | swap x y l => simp only [sumA]; omega
 | trans _ _ i j => exact i.trans j
theorem Part.perm {data : List Int} {K : Lit} {L M : List Pkt} (h : Part data K L) (hp : M.Perm L) : Part data K M :=
 ⟨fun p hm => h.each p (hp.mem_iff.1 hm), (hp.pairwise_iff (fun {a b} => apP_sym a b)).2 h.pair, (sumA_perm (hp.map pcP)).trans h.sum, by obtain ⟨p, h1, h2⟩ := h.last; exact ⟨p, hp.mem_iff.2 h1, h2⟩⟩
/-- The datagram of which the fragments A have come. -/
structure Got (data : List Int) (A : List Pkt) (g : Ag) : Prop where
 dead : g.dead = false
 ps : g.ps = A.map pcP
 size : g.size = sumA (A.map pcP)
 last : g.last = A.any fun p => !p.mo
 reach : 0 ≤ g.reach ∧ g.reach ≤ data.length
 far : ∀ p ∈ A, p.of + p.dat.length ≤ g.reach
 hd : ∀ p ∈ A, p.of = 0 → ∃ q ∈ A, q.of = 0 ∧ g.hd = ⟨q.f, q.s, q.d, q.pr, q.ho, q.X⟩
theorem Got.clash {data : List Int} {K : Lit} {A B : List Pkt} {p : Pkt} {g : Ag} (h : Part data K (A ++ p :: B)) (G : Got data A g) : clashA g p.of p.mo p.dat.length = false := by
 have hp := h.each p (by simp)
 have hA : ∀ q ∈ A, apP q p := fun q hq => (List.pairwise_append.1 h.pair).2.2 q hq p (by simp)
 have h1 : (g.last && (!p.mo || decide (p.of + p.dat.length > g.reach))) = false := by
  cases hl : g.last
  ·rfl
  ·rw [G.last] at hl
   obtain ⟨q, hq, hm⟩ := List.any_eq_true.1 hl
   have hm : q.mo = false := by simpa using hm
   have h2 := (hA q hq).2
   have h3 := (h.each q (by simp [hq])).last hm
   have h4 := G.far q hq
   have h5 := hp.lies
   have h6 : p.mo = true := by rcases h2 with h2 | h2; (rw [hm] at h2; cases h2); exact h2
   simp only [h6, Bool.not_true, Bool.false_or, Bool.true_and, decide_eq_false_iff_not]
   omega
 have h2 : (!p.mo && decide (g.reach > p.of + p.dat.length)) = false := by
  cases hm : p.mo
  ·have := hp.last hm
   have := G.reach
   simp only [Bool.not_false, Bool.true_and, decide_eq_false_iff_not]
   omega
  ·rfl
 unfold clashA
 rw [h1, h2]
 simp only [Bool.false_eq_true, if_false]
 rw [List.any_eq_false]
 intro q hq
 rw [G.ps] at hq
 obtain ⟨r, hr, rfl⟩ := List.mem_map.1 hq
 have := (hA r hr).1
 unfold apA at this
 simp only [pcP] at this
 simp only [shareA, pcP, Bool.and_eq_true, decide_eq_true_eq, not_and]
 omega
theorem Got.more {data : List Int} {K : Lit} {A B : List Pkt} {p : Pkt} {g : Ag} (h : Part data K (A ++ p :: B)) (G : Got data A g) (t : Int) : Got data (A ++ [p]) (moreA g t p) := by
 have hp := h.each p (by simp)
 refine ⟨G.dead, by simp [moreA, G.ps], by simp [moreA, G.size, sumA_app, sumA], by simp [moreA, G.last], ?_, ?_, ?_⟩
 ·have := G.reach
  have := hp.lies
  simp only [moreA]
  split <;> omega
 ·intro q hq
  simp only [moreA]
  rcases List.mem_append.1 hq with hq | hq
  ·have := G.far q hq
   split <;> omega
  ·obtain rfl := List.mem_singleton.1 hq
   split <;> omega
 ·intro q hq h0
  simp only [moreA]
  by_cases hz : p.of = 0
  ·exact ⟨p, by simp, hz, if_pos hz⟩
  ·rw [if_neg hz]
   rcases List.mem_append.1 hq with hq | hq
   ·obtain ⟨r, hr, h1, h2⟩ := G.hd q hq h0
    exact ⟨r, by simp [hr], h1, h2⟩
   ·obtain rfl := List.mem_singleton.1 hq
    exact absurd h0 hz
theorem Got.whole {data : List Int} {K : Lit} {A : List Pkt} {g : Ag} (h : Part data K A) (G : Got data A g) : wholeA g = true := by
 unfold wholeA
 obtain ⟨q, hq, hm⟩ := h.last
 have h1 : g.last = true := by rw [G.last]; exact List.any_eq_true.2 ⟨q, hq, by simp [hm]⟩
 have h2 := (h.each q hq).last hm
 have h3 := G.far q hq
 have h4 := G.reach
 have h5 := h.sum
 rw [← G.size] at h5
 simp only [h1, Bool.true_and, beq_iff_eq]
 omega
theorem splice_get (L cs : List Int) (o x : Nat) (h : o + cs.length ≤ L.length) : (splice L o cs)[x]? = if o ≤ x ∧ x < o + cs.length then cs[x - o]? else L[x]? := by
 unfold splice
 by_cases h1 : x < o
 ·rw [List.getElem?_append_left (by simp; omega), List.getElem?_take, if_pos h1, if_neg (by omega)]
 ·rw [List.getElem?_append_right (by simp; omega)]
  have e : (L.take o).length = o := by simp; omega
  rw [e]
  by_cases h2 : x < o + cs.length
  ·rw [List.getElem?_append_left (by omega), if_pos (by omega)]
  ·rw [List.getElem?_append_right (by omega), if_neg (by omega), List.getElem?_drop]
   congr 1
   omega
theorem pasteA_length : ∀ (ps : List (Int × List Int)) (L : List Int), (∀ p ∈ ps, p.1.toNat + p.2.length ≤ L.length) → (pasteA L ps).length = L.length
 | [], _, _ => rfl
 | q :: ps, L, h => by
  have h1 := length_splice L q.1.toNat q.2 (h q (by simp))
  simp only [pasteA]
  rw [pasteA_length ps _ (fun p hp => by rw [h1]; exact h p (by simp [hp])), h1]
theorem paste_agree (data : List Int) : ∀ (ps : List (Int × List Int)) (L : List Int), (∀ p ∈ ps, 0 ≤ p.1 ∧ p.1.toNat + p.2.length ≤ L.length ∧ p.2 = (data.drop p.1.toNat).take p.2.length) → ∀ x, (1 ≤ cntA ps x ∨ L[x]? = data[x]?) → (pasteA L ps)[x]? = data[x]?
 | [], L, _, x, h => by
  rcases h with h | h
  ·simp [cntA] at h
  ·exact h
 | p :: r, L, hp, x, h => by
  obtain ⟨h0, h1, h2⟩ := hp p (by simp)
  have h3 := length_splice L p.1.toNat p.2 h1
  simp only [pasteA]
  refine paste_agree data r _ (fun q hq => by rw [h3]; exact hp q (by simp [hq])) x ?_
  rw [splice_get L p.2 p.1.toNat x h1]
  by_cases hx : p.1.toNat ≤ x ∧ x < p.1.toNat + p.2.length
  ·right
   rw [if_pos hx, h2, List.getElem?_take, if_pos (by omega), List.getElem?_drop]
   congr 1
   omega
  ·rw [if_neg hx]
   rcases h with h | h
   ·left
    simp only [cntA, inA] at h
    rw [if_neg (by omega)] at h
    omega
   ·exact .inr h
theorem Got.data {data : List Int} {K : Lit} {A : List Pkt} {g : Ag} (h : Part data K A) (G : Got data A g) : pasteA (List.replicate g.reach.toNat 0) g.ps = data ∧ g.reach = data.length := by
 obtain ⟨q, hq, hm⟩ := h.last
 have h2 := (h.each q hq).last hm
 have h3 := G.far q hq
 have h4 := G.reach
 have hr : g.reach = data.length := by omega
 refine ⟨?_, hr⟩
 rw [hr, G.ps, Int.toNat_natCast]
 have hin : ∀ p ∈ A.map pcP, 0 ≤ p.1 ∧ p.1 + p.2.length ≤ (data.length : Int) := fun p hp => by
  obtain ⟨r, hr, rfl⟩ := List.mem_map.1 hp
  have h1 := wrong_nums (h.each r hr).right
  have h2 := (h.each r hr).lies
  exact ⟨h1.1, h2⟩
 have hap : (A.map pcP).Pairwise apA := List.pairwise_map.2 (h.pair.imp fun hh => hh.1)
 have hc := sum_full (A.map pcP) data.length hin hap h.sum
 apply List.ext_getElem?
 intro x
 by_cases hx : x < data.length
 ·refine paste_agree data _ _ (fun p hp => ?_) x (.inl (by rw [hc x hx]; omega))
  have h1 := hin p hp
  refine ⟨h1.1, by rw [List.length_replicate]; omega, ?_⟩
  obtain ⟨r, hr, rfl⟩ := List.mem_map.1 hp
  exact (h.each r hr).dat
 ·rw [List.getElem?_eq_none (by rw [pasteA_length _ _ (fun p hp => by have := hin p hp; rw [List.length_replicate]; omega)]; simp; omega), List.getElem?_eq_none (by omega)]
/-- Where the fragments A of a datagram K wait. -/
def Waits (data : List Int) (K : Lit) (s : Fs) (A : List Pkt) : Prop := (A = [] ∧ look K s.E = none) ∨ ∃ g, look K s.E = some g ∧ Got data A g
end Go.Proofs.Ytkeeidfpgfdldaa
