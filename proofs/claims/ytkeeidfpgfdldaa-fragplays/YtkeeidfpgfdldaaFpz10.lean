/- Texts joined: FiA -/
import Derived.Test.YtkeeidfpgfdldaaFpz8
import Derived.Test.YtkeeidfpgfdldaaFpz9
namespace Go.Proofs.Ytkeeidfpgfdldaa
open Go.RowKit
set_option linter.unusedVariables false
set_option linter.unusedSimpArgs false
/-- A packet. -/
structure Pkt where
 f : Int
 s : Ad
 d : Ad
 pr : Int
 ho : Int
 fg : Bool
 id : Int
 of : Int
 mo : Bool
 X : List Int
 dat : List Int
abbrev pk0 : Pkt := ⟨0, ⟨0, 0, 0⟩, ⟨0, 0, 0⟩, 0, 0, false, 0, 0, false, [], []⟩
/-- The packet at the place 0. -/
structure Ah where
 fam : Int
 s : Ad
 d : Ad
 pr : Int
 ho : Int
 X : List Int
/-- A datagram. -/
structure Ag where
 ends : Int
 dead : Bool
 hd : Ah
 ps : List (Int × List Int)
 size : Int
 reach : Int
 last : Bool
abbrev ag0 : Ag := ⟨0, false, ⟨0, ⟨0, 0, 0⟩, ⟨0, 0, 0⟩, 0, 0, []⟩, [], 0, 0, false⟩
abbrev agX (t : Int) : Ag := ⟨t, true, ⟨0, ⟨0, 0, 0⟩, ⟨0, 0, 0⟩, 0, 0, []⟩, [], 0, 0, false⟩
def sumA : List (Int × List Int) → Int
 | [] => 0
 | p :: r => p.2.length + sumA r
theorem sumA_app : ∀ (a b : List (Int × List Int)), sumA (a ++ b) = sumA a + sumA b
 | [], b => by simp [sumA]
 | p :: r, b => by simp only [List.cons_append, sumA, sumA_app r b]; omega
theorem sumA_nonneg : ∀ (a : List (Int × List Int)), 0 ≤ sumA a
 | [] => by simp [sumA]
 | p :: r => by have := sumA_nonneg r; simp only [sumA]; omega
theorem len_le_sumA : ∀ (a : List (Int × List Int)), (∀ p ∈ a, 1 ≤ p.2.length) → (a.length : Int) ≤ sumA a
 | [], _ => by simp [sumA]
 | p :: r, h => by
  have := len_le_sumA r (fun q hq => h q (by simp [hq]))
  have := h p (by simp)
  simp only [sumA, List.length_cons]
  omega
/-! How many pieces have a byte. -/
def inA (p : Int × List Int) (x : Nat) : Nat := if p.1 ≤ x ∧ (x : Int) < p.1 + p.2.length then 1 else 0
def cntA : List (Int × List Int) → Nat → Nat
 | [], _ => 0
 | p :: r, x => inA p x + cntA r x
def tot (f : Nat → Nat) : Nat → Nat
 | 0 => 0
 | n + 1 => tot f n + f n
theorem tot_add (f g : Nat → Nat) : ∀ n, tot (fun x => f x + g x) n = tot f n + tot g n
 | 0 => rfl
 | n + 1 => by simp only [tot, tot_add f g n]; omega
theorem tot_le (f : Nat → Nat) : ∀ n, (∀ x, x < n → f x ≤ 1) → tot f n ≤ n
 | 0, _ => by simp [tot]
 | n + 1, h => by
  have := tot_le f n (fun x hx => h x (by omega))
  have := h n (by omega)
  simp only [tot]; omega
theorem tot_full (f : Nat → Nat) : ∀ n, (∀ x, x < n → f x ≤ 1) → tot f n = n → ∀ x, x < n → f x = 1
 | 0, _, _, x, hx => by omega
 | n + 1, h, e, x, hx => by
  have h1 := tot_le f n (fun x hx => h x (by omega))
  have h2 := h n (by omega)
  simp only [tot] at e
  by_cases hn : x = n
  ·subst hn; omega
  ·exact tot_full f n (fun x hx => h x (by omega)) (by omega) x (by omega)
theorem tot_in (a : Nat) (l : List Int) : ∀ n, tot (inA ((a : Int), l)) n = min (a + l.length) n - min a n
 | 0 => by simp [tot]
 | n + 1 => by
  have h : inA ((a : Int), l) n = if a ≤ n ∧ n < a + l.length then 1 else 0 := by
   simp only [inA]
   have e : ((a : Int) ≤ n ∧ (n : Int) < a + l.length) ↔ (a ≤ n ∧ n < a + l.length) := by omega
   simp only [e]
  simp only [tot, tot_in a l n, h]
  split <;> omega
theorem tot_cnt : ∀ (ps : List (Int × List Int)) (n : Nat), (∀ p ∈ ps, 0 ≤ p.1 ∧ p.1 + p.2.length ≤ n) → (tot (cntA ps) n : Int) = sumA ps
 | [], n, _ => by
  have : ∀ n, tot (cntA []) n = 0 := fun n => by
   induction n with
   | zero => rfl
   | succ n ih => show tot (cntA []) n + cntA [] n = 0; rw [ih]; rfl
  simp [this, sumA]
 | p :: r, n, h => by
  have ih := tot_cnt r n (fun q hq => h q (by simp [hq]))
  obtain ⟨h0, h1⟩ := h p (by simp)
  have e : cntA (p :: r) = fun x => inA p x + cntA r x := rfl
  rw [e, tot_add]
  obtain ⟨o, l⟩ := p
  obtain ⟨a, rfl⟩ := Int.eq_ofNat_of_zero_le h0
  simp only at h1
  have := tot_in a l n
  simp only [sumA]
  have e2 : tot (inA ((a : Int), l)) n = l.length := by
   rw [this]
   have : (a : Int) + l.length ≤ n := h1
   omega
  rw [e2]
  omega
def apA (p q : Int × List Int) : Prop := p.1 + p.2.length ≤ q.1 ∨ q.1 + q.2.length ≤ p.1
theorem cnt_zero : ∀ (ps : List (Int × List Int)) (x : Nat), (∀ p ∈ ps, inA p x = 0) → cntA ps x = 0
 | [], _, _ => rfl
 | p :: r, x, h => by simp only [cntA, h p (by simp), cnt_zero r x (fun q hq => h q (by simp [hq]))]
theorem cnt_le : ∀ (ps : List (Int × List Int)) (x : Nat), ps.Pairwise apA → cntA ps x ≤ 1
 | [], _, _ => by simp [cntA]
 | p :: r, x, h => by
  obtain ⟨h1, h2⟩ := List.pairwise_cons.1 h
  have ih := cnt_le r x h2
  simp only [cntA]
  by_cases hp : p.1 ≤ x ∧ (x : Int) < p.1 + p.2.length
  ·rw [cnt_zero r x (fun q hq => by
    have := h1 q hq
    unfold apA at this
    simp only [inA]
    rw [if_neg (by omega)])]
   simp only [inA]
   rw [if_pos hp]
   omega
  ·simp only [inA]
   rw [if_neg hp]
   omega
theorem sum_le (ps : List (Int × List Int)) (n : Nat) (h : ∀ p ∈ ps, 0 ≤ p.1 ∧ p.1 + p.2.length ≤ n) (ha : ps.Pairwise apA) : sumA ps ≤ n := by
 rw [← tot_cnt ps n h]
 have := tot_le (cntA ps) n (fun x _ => cnt_le ps x ha)
 omega
theorem sum_full (ps : List (Int × List Int)) (n : Nat) (h : ∀ p ∈ ps, 0 ≤ p.1 ∧ p.1 + p.2.length ≤ n) (ha : ps.Pairwise apA) (he : sumA ps = n) : ∀ x, x < n → cntA ps x = 1 := by
 rw [← tot_cnt ps n h] at he
 exact tot_full (cntA ps) n (fun x _ => cnt_le ps x ha) (by omega)
/-! Lists by keys. -/
def ins {α : Type} (x : Lit × α) : List (Lit × α) → List (Lit × α)
 | [] => [x]
 | y :: r => if x.1.before y.1 then x :: y :: r else y :: ins x r
def strike {α : Type} (k : Lit) (E : List (Lit × α)) : List (Lit × α) := E.filter fun p => !p.1.sameKey k
def look {α : Type} (k : Lit) (E : List (Lit × α)) : Option α := (E.find? fun p => p.1.sameKey k).map (·.2)
theorem ins_perm {α : Type} (x : Lit × α) : ∀ l : List (Lit × α), (ins x l).Perm (x :: l)
 | [] => .refl _
 | y :: r => by
  unfold ins
  split
  ·exact .refl _
  ·exact ((ins_perm x r).cons y).trans (.swap x y r)
theorem ins_map {α β : Type} (f : α → β) (x : Lit × α) : ∀ l : List (Lit × α), (ins x l).map (fun p => (p.1, f p.2)) = ins (x.1, f x.2) (l.map fun p => (p.1, f p.2))
 | [] => rfl
 | y :: r => by
  have ih := ins_map f x r
  unfold ins
  simp only [List.map_cons]
  cases h : x.1.before y.1
  ·simp [ih]
  ·simp
theorem ins_data {α : Type} (f : α → DataW Value) (x : Lit × α) : ∀ l : List (Lit × α), (ins x l).map (fun p => (p.1, f p.2)) = DataW.insert (x.1, f x.2) (l.map fun p => (p.1, f p.2))
 | [] => rfl
 | y :: r => by
  have ih := ins_data f x r
  unfold ins DataW.insert
  simp only [List.map_cons]
  cases h : x.1.before y.1
  ·simp [ih]
  ·simp
theorem strike_map {α β : Type} (f : α → β) (k : Lit) (l : List (Lit × α)) : (strike k l).map (fun p => (p.1, f p.2)) = strike k (l.map fun p => (p.1, f p.2)) := by
 unfold strike
 rw [List.filter_map]
 rfl
theorem look_map {α β : Type} (f : α → β) (k : Lit) : ∀ l : List (Lit × α), look k (l.map fun p => (p.1, f p.2)) = (look k l).map f
 | [] => rfl
 | y :: r => by
  have ih := look_map f k r
  unfold look at ih ⊢
  simp only [List.map_cons, List.find?_cons]
  cases h : y.1.sameKey k
  ·exact ih
  ·rfl
theorem look_mem {α : Type} {k : Lit} {l : List (Lit × α)} {x : α} (h : look k l = some x) : (k, x) ∈ l := by
 unfold look at h
 cases hf : l.find? (fun p => p.1.sameKey k) with
 | none => rw [hf] at h; cases h
 | some p =>
  rw [hf] at h
  have h1 := List.mem_of_find?_eq_some hf
  have h2 := List.find?_some hf
  have h3 : p.1 = k := WideAt.sameKey_eq h2
  obtain ⟨a, b⟩ := p
  cases h
  cases h3
  exact h1
theorem look_none {α : Type} {k : Lit} {l : List (Lit × α)} (h : look k l = none) : strike k l = l := by
 unfold look at h
 have h := Option.map_eq_none_iff.1 h
 exact List.filter_eq_self.2 (fun p hp => by simpa using List.find?_eq_none.1 h p hp)
theorem mem_strike {α : Type} {k : Lit} {l : List (Lit × α)} {p : Lit × α} (h : p ∈ strike k l) : p ∈ l := (List.mem_filter.1 h).1
theorem strike_ne {α : Type} {k : Lit} (hk : WideAt.IsKeyLit k) {l : List (Lit × α)} {p : Lit × α} (h : p ∈ strike k l) : p.1 ≠ k := fun e => by
 have := (List.mem_filter.1 h).2
 rw [e, WideAt.sameKey_self hk] at this
 cases this
def sizes : List (Lit × Ag) → Int
 | [] => 0
 | p :: r => p.2.size + sizes r
theorem sizes_perm {a b : List (Lit × Ag)} (h : a.Perm b) : sizes a = sizes b := by
 induction h with
 | nil => rfl
 | cons x _ ih => simp only [sizes, ih]
 | swap x y l => simp only [sizes]; omega
 | trans _ _ i j => exact i.trans j
abbrev Keys {α : Type} (E : List (Lit × α)) : Prop := E.Pairwise fun p q => p.1 ≠ q.1
theorem strike_size {k : Lit} {g : Ag} : ∀ {E : List (Lit × Ag)}, Keys E → look k E = some g → sizes (strike k E) + g.size = sizes E
 | [], _, h => by cases h
 | y :: r, hk, h => by
  obtain ⟨h1, h2⟩ := List.pairwise_cons.1 hk
  cases hy : y.1.sameKey k
  ·have h' : look k r = some g := by
    unfold look at h ⊢
    simpa only [List.find?_cons, hy] using h
   have ih := strike_size h2 h'
   have e : strike k (y :: r) = y :: strike k r := by unfold strike; simp [hy]
   rw [e]
   simp only [sizes]
   omega
  ·have h' : y.2 = g := by
    unfold look at h
    simpa [List.find?_cons, hy] using h
   have e : strike k (y :: r) = r := by
    have e1 : strike k (y :: r) = strike k r := by unfold strike; simp [hy]
    rw [e1]
    exact List.filter_eq_self.2 (fun p hp => by
     cases hs : p.1.sameKey k
     ·rfl
     ·exact absurd ((WideAt.sameKey_eq hy).trans (WideAt.sameKey_eq hs).symm) (h1 p hp))
   rw [e]
   simp only [sizes, h']
   omega
theorem strike_len {α : Type} {k : Lit} {g : α} : ∀ {E : List (Lit × α)}, Keys E → look k E = some g → (strike k E).length + 1 = E.length
 | [], _, h => by cases h
 | y :: r, hk, h => by
  obtain ⟨h1, h2⟩ := List.pairwise_cons.1 hk
  cases hy : y.1.sameKey k
  ·have h' : look k r = some g := by
    unfold look at h ⊢
    simpa only [List.find?_cons, hy] using h
   have ih := strike_len h2 h'
   have e : strike k (y :: r) = y :: strike k r := by unfold strike; simp [hy]
   rw [e]
   simp only [List.length_cons]
   omega
  ·have e : strike k (y :: r) = r := by
    have e1 : strike k (y :: r) = strike k r := by unfold strike; simp [hy]
    rw [e1]
    exact List.filter_eq_self.2 (fun p hp => by
     cases hs : p.1.sameKey k
     ·rfl
     ·exact absurd ((WideAt.sameKey_eq hy).trans (WideAt.sameKey_eq hs).symm) (h1 p hp))
   rw [e]
   rfl
theorem keys_ins {α : Type} {k : Lit} (hk : WideAt.IsKeyLit k) (x : α) {E : List (Lit × α)} (h : Keys E) : Keys (ins (k, x) (strike k E)) :=
 ((ins_perm (k, x) (strike k E)).pairwise_iff (fun {a b} (h : a.1 ≠ b.1) => h.symm)).2 (List.pairwise_cons.2 ⟨fun q hq e => strike_ne hk hq e.symm, h.filter _⟩)
/-! A table. -/
structure Fs where
 most : Int
 room : Int
 life : Int
 now : Int
 by_ : Int
 E : List (Lit × Ag)
def shareA (of en : Int) (q : Int × List Int) : Bool := decide (of < q.1 + q.2.length) && decide (q.1 < en)
def clashA (g : Ag) (of : Int) (mo : Bool) (n : Nat) : Bool :=
 if (g.last && (!mo || decide (of + n > g.reach))) = true then true else if (!mo && decide (g.reach > of + n)) = true then true else g.ps.any (shareA of (of + n))
def moreA (g : Ag) (t : Int) (p : Pkt) : Ag :=
 ⟨t, g.dead, if p.of = 0 then ⟨p.f, p.s, p.d, p.pr, p.ho, p.X⟩ else g.hd, g.ps ++ [(p.of, p.dat)], g.size + p.dat.length, if g.reach < p.of + p.dat.length then p.of + p.dat.length else g.reach, g.last || !p.mo⟩
def pasteA (L : List Int) : List (Int × List Int) → List Int
 | [] => L
 | p :: ps => pasteA (splice L p.1.toNat p.2) ps
def nameK (p : Pkt) : Lit := .string (keyBytes [.int .i64 p.s.fam, .int .u64 p.s.hi, .int .u64 p.s.lo, .int .i64 p.d.fam, .int .u64 p.d.hi, .int .u64 p.d.lo, .int .i64 (if p.f = 6 then 0 else p.pr), .int .u32 p.id])
theorem keyLit_name (p : Pkt) : WideAt.IsKeyLit (nameK p) := by simp [WideAt.IsKeyLit, nameK]
def wholeA (g : Ag) : Bool := g.last && (g.size == g.reach)
def dataA (g : Ag) : Pkt := ⟨g.hd.fam, g.hd.s, g.hd.d, g.hd.pr, g.hd.ho, false, 0, 0, false, g.hd.X, pasteA (List.replicate g.reach.toNat 0) g.ps⟩
def wrongP (p : Pkt) : Int := wrongF p.f p.s p.d p.of p.mo p.dat.length
def gramA (s : Fs) (p : Pkt) : Ag := (look (nameK p) s.E).getD ag0
def timeA (s : Fs) (p : Pkt) : Int := if (look (nameK p) s.E).isSome then (gramA s p).ends else s.now + s.life
def takeF (s : Fs) (p : Pkt) : Fs × Pkt × Int :=
 if (gramA s p).dead = true then (s, pk0, 11)
 else if clashA (gramA s p) p.of p.mo p.dat.length = true then ({ s with by_ := s.by_ - (gramA s p).size, E := ins (nameK p, agX (gramA s p).ends) (strike (nameK p) s.E) }, pk0, 11)
 else if ((look (nameK p) s.E).isSome = false ∧ s.most ≤ s.E.length) ∨ s.room - s.by_ < p.dat.length then (s, pk0, 12)
 else if wholeA (moreA (gramA s p) (timeA s p) p) = true then ({ s with by_ := s.by_ - (gramA s p).size, E := strike (nameK p) s.E }, dataA (moreA (gramA s p) (timeA s p) p), 0)
 else ({ s with by_ := s.by_ + p.dat.length, E := ins (nameK p, moreA (gramA s p) (timeA s p) p) (strike (nameK p) s.E) }, pk0, 19)
def putF (s : Fs) (p : Pkt) : Fs × Pkt × Int :=
 if p.fg = false then (s, p, 0) else if wrongP p ≠ 0 then (s, pk0, wrongP p) else takeF s p
def tickF (s : Fs) (now : Int) : Fs × Int :=
 if now < s.now ∨ now > 4611684918915760128 then (s, 25) else ({ s with now := now, by_ := sizes (s.E.filter fun p => decide (now < p.2.ends)), E := s.E.filter fun p => decide (now < p.2.ends) }, 0)
/-! What holds of a table all the while. -/
structure AgOk (g : Ag) : Prop where
 each : ∀ p ∈ g.ps, 0 ≤ p.1 ∧ p.1 ≤ 65528 ∧ 1 ≤ p.2.length ∧ p.1 + p.2.length ≤ g.reach
 apart : g.ps.Pairwise apA
 size : g.size = sumA g.ps
 reach : 0 ≤ g.reach ∧ g.reach ≤ 65535
structure FsOk (s : Fs) : Prop where
 most : 0 ≤ s.most ∧ s.most ≤ 256
 room : 0 ≤ s.room ∧ s.room ≤ 1048576
 life : 1 ≤ s.life ∧ s.life ≤ 1099511627776
 now : 0 ≤ s.now ∧ s.now ≤ 4611684918915760128
 by_ : s.by_ = sizes s.E
 bytes : s.by_ ≤ s.room
 few : (s.E.length : Int) ≤ s.most
 keys : Keys s.E
 lits : ∀ e ∈ s.E, WideAt.IsKeyLit e.1
 each : ∀ e ∈ s.E, AgOk e.2 ∧ e.2.ends ≤ s.now + s.life
theorem agOk_0 : AgOk ag0 := ⟨by simp, List.Pairwise.nil, rfl, by simp⟩
theorem agOk_X (t : Int) : AgOk (agX t) := ⟨by simp, List.Pairwise.nil, rfl, by simp⟩
theorem AgOk.le {g : Ag} (h : AgOk g) : g.size ≤ g.reach := by
 obtain ⟨n, hn⟩ := Int.eq_ofNat_of_zero_le h.reach.1
 rw [h.size, hn]
 exact sum_le g.ps n (fun p hp => by have := h.each p hp; rw [hn] at this; exact ⟨this.1, this.2.2.2⟩) h.apart
theorem AgOk.few {g : Ag} (h : AgOk g) : (g.ps.length : Int) ≤ g.reach := by
 have := h.le
 have h2 := len_le_sumA g.ps (fun p hp => (h.each p hp).2.2.1)
 rw [h.size] at this
 omega
theorem AgOk.nonneg {g : Ag} (h : AgOk g) : 0 ≤ g.size := by rw [h.size]; exact sumA_nonneg _
theorem gramA_ok {s : Fs} (h : FsOk s) (p : Pkt) : AgOk (gramA s p) := by
 unfold gramA
 cases hl : look (nameK p) s.E with
 | none => exact agOk_0
 | some g => exact (h.each _ (look_mem hl)).1
theorem wrong_nums {p : Pkt} (h : wrongP p = 0) : 0 ≤ p.of ∧ p.of ≤ 65528 ∧ 1 ≤ p.dat.length ∧ p.of + p.dat.length ≤ 65535 := by
 unfold wrongP wrongF at h
 split at h
 ·cases h
 split at h
 ·cases h
 split at h
 ·cases h
 omega
theorem clash_apart {g : Ag} {of : Int} {mo : Bool} {n : Nat} (h : clashA g of mo n = false) : (g.last = true → mo = true ∧ of + n ≤ g.reach) ∧ (mo = false → g.reach ≤ of + n) ∧ ∀ q ∈ g.ps, q.1 + q.2.length ≤ of ∨ of + n ≤ q.1 := by
 unfold clashA at h
 split at h
 ·cases h
 split at h
 ·cases h
 rename_i h1 h2
 refine ⟨fun hl => ?_, fun hm => ?_, fun q hq => ?_⟩
 ·simp only [hl, Bool.true_and, Bool.or_eq_true, not_or, Bool.not_eq_true, Bool.not_eq_false', decide_eq_false_iff_not] at h1
  exact ⟨h1.1, by have := h1.2; omega⟩
 ·simp only [hm, Bool.not_false, Bool.true_and, decide_eq_true_eq] at h2
  omega
 ·have := List.any_eq_false.1 h q hq
  simp only [shareA, Bool.and_eq_true, decide_eq_true_eq, not_and] at this
  omega
theorem moreA_ok {g : Ag} (h : AgOk g) {p : Pkt} (hw : wrongP p = 0) (hc : clashA g p.of p.mo p.dat.length = false) (t : Int) : AgOk (moreA g t p) := by
 obtain ⟨w0, w1, w2, w3⟩ := wrong_nums hw
 obtain ⟨_, _, c3⟩ := clash_apart hc
 refine ⟨fun q hq => ?_, ?_, ?_, ?_⟩
 ·simp only [moreA] at hq ⊢
  rcases List.mem_append.1 hq with hq | hq
  ·have := h.each q hq
   split <;> omega
  ·obtain rfl := List.mem_singleton.1 hq
   simp only
   split <;> omega
 ·simp only [moreA]
  refine List.pairwise_append.2 ⟨h.apart, List.pairwise_singleton _ _, fun a ha b hb => ?_⟩
  obtain rfl := List.mem_singleton.1 hb
  exact c3 a ha
 ·simp only [moreA, sumA_app, sumA, h.size]
  omega
 ·simp only [moreA]
  have := h.reach
  split <;> omega
theorem take_clash_some {s : Fs} {p : Pkt} (hw : wrongP p = 0) (hc : clashA (gramA s p) p.of p.mo p.dat.length = true) : ∃ g, look (nameK p) s.E = some g := by
 obtain ⟨w0, w1, w2, w3⟩ := wrong_nums hw
 cases hl : look (nameK p) s.E with
 | some g => exact ⟨g, rfl⟩
 | none =>
  have : gramA s p = ag0 := by unfold gramA; rw [hl]; rfl
  rw [this] at hc
  exfalso
  revert hc
  have : ¬ (0 : Int) > p.of + p.dat.length := by omega
  simp [clashA, this]
theorem strike_sizes {s : Fs} (h : FsOk s) (p : Pkt) : sizes (strike (nameK p) s.E) + (gramA s p).size = s.by_ := by
 rw [h.by_]
 unfold gramA
 cases hl : look (nameK p) s.E with
 | none => rw [look_none hl]; simp
 | some g => exact strike_size h.keys hl
theorem sizes_nonneg : ∀ {E : List (Lit × Ag)}, (∀ e ∈ E, AgOk e.2) → 0 ≤ sizes E
 | [], _ => by simp [sizes]
 | y :: r, h => by
  have := sizes_nonneg (E := r) (fun e he => h e (by simp [he]))
  have := (h y (by simp)).nonneg
  simp only [sizes]; omega
theorem FsOk.by_nonneg {s : Fs} (h : FsOk s) : 0 ≤ s.by_ := by rw [h.by_]; exact sizes_nonneg (fun e he => (h.each e he).1)
theorem FsOk.gram_le {s : Fs} (h : FsOk s) (p : Pkt) : (gramA s p).size ≤ s.by_ := by
 have h1 := strike_sizes h p
 have h2 := sizes_nonneg (E := strike (nameK p) s.E) (fun e he => (h.each e (mem_strike he)).1)
 omega
theorem FsOk.struck {s : Fs} (h : FsOk s) (p : Pkt) : FsOk { s with by_ := s.by_ - (gramA s p).size, E := strike (nameK p) s.E } := by
 have h1 := strike_sizes h p
 have h2 := (gramA_ok h p).nonneg
 refine ⟨h.most, h.room, h.life, h.now, by simp only; omega, by have := h.bytes; simp only; omega, ?_, h.keys.filter _, fun e he => h.lits e (mem_strike he), fun e he => h.each e (mem_strike he)⟩
 have := List.length_filter_le (fun p_1 => !p_1.1.sameKey (nameK p)) s.E
 have := h.few
 simp only [strike]
 omega
theorem FsOk.put {s : Fs} (h : FsOk s) (p : Pkt) (g : Ag) (b : Int) (hg : AgOk g) (ht : g.ends ≤ s.now + s.life) (hb : b = s.by_ - (gramA s p).size + g.size) (hr : b ≤ s.room) (hn : (look (nameK p) s.E).isSome = false → (s.E.length : Int) < s.most) :
  FsOk { s with by_ := b, E := ins (nameK p, g) (strike (nameK p) s.E) } := by
 have hp := ins_perm (nameK p, g) (strike (nameK p) s.E)
 have h1 := strike_sizes h p
 refine ⟨h.most, h.room, h.life, h.now, ?_, hr, ?_, keys_ins (keyLit_name p) g h.keys, fun e he => ?_, fun e he => ?_⟩
 ·simp only [sizes_perm hp, sizes]; omega
 ·simp only [hp.length_eq, List.length_cons]
  cases hl : look (nameK p) s.E with
  | none =>
   have := hn (by rw [hl]; rfl)
   rw [look_none hl]; omega
  | some g' =>
   have := strike_len h.keys hl
   have := h.few
   omega
 ·rcases List.mem_cons.1 (hp.mem_iff.1 he) with rfl | he
  ·exact keyLit_name p
  ·exact h.lits e (mem_strike he)
 ·rcases List.mem_cons.1 (hp.mem_iff.1 he) with rfl | he
  ·exact ⟨hg, ht⟩
  ·exact h.each e (mem_strike he)
theorem timeA_le {s : Fs} (h : FsOk s) (p : Pkt) : timeA s p ≤ s.now + s.life := by
 unfold timeA gramA
 cases hl : look (nameK p) s.E with
 | none => simp
 | some g => simpa using (h.each _ (look_mem hl)).2
theorem takeF_ok {s : Fs} (h : FsOk s) (p : Pkt) (hw : wrongP p = 0) : FsOk (takeF s p).1 := by
 unfold takeF
 split
 ·exact h
 split
 ·rename_i hc
  obtain ⟨g, hl⟩ := take_clash_some hw hc
  have e : gramA s p = g := by unfold gramA; rw [hl]; rfl
  have h0 := h.bytes
  have h1 := (gramA_ok h p).nonneg
  exact h.put p _ _ (agOk_X _) (by rw [e]; exact (h.each _ (look_mem hl)).2) (by simp only; omega) (by omega) (fun hn => by rw [hl] at hn; cases hn)
 split
 ·exact h
 split
 ·exact h.struck p
 ·rename_i _ hc hr _
  have hc : clashA (gramA s p) p.of p.mo p.dat.length = false := by simpa using hc
  exact h.put p _ _ (moreA_ok (gramA_ok h p) hw hc _) (timeA_le h p) (by simp only [moreA]; omega) (by omega) (fun hn => by
   rw [not_or, not_and] at hr
   have := hr.1 hn
   omega)
theorem filter_sizes (f : Lit × Ag → Bool) : ∀ {E : List (Lit × Ag)}, (∀ e ∈ E, AgOk e.2) → sizes (E.filter f) ≤ sizes E
 | [], _ => by simp [sizes]
 | y :: r, h => by
  have ih := filter_sizes f (E := r) (fun e he => h e (by simp [he]))
  have := (h y (by simp)).nonneg
  cases hf : f y <;> simp only [List.filter_cons, hf, Bool.false_eq_true, if_false, if_true, sizes] <;> omega
theorem tickF_ok {s : Fs} (h : FsOk s) (now : Int) : FsOk (tickF s now).1 := by
 unfold tickF
 split
 ·exact h
 ·rename_i hn
  have h1 := h.now
  have h2 := h.bytes
  have h3 := filter_sizes (fun p => decide (now < p.2.ends)) (E := s.E) (fun e he => (h.each e he).1)
  have h4 := h.by_
  refine ⟨h.most, h.room, h.life, by simp only; omega, rfl, by simp only; omega, ?_, h.keys.filter _, fun e he => h.lits e (List.mem_filter.1 he).1, fun e he => ⟨(h.each e (List.mem_filter.1 he).1).1, ?_⟩⟩
  ·have := List.length_filter_le (fun p : Lit × Ag => decide (now < p.2.ends)) s.E
   have := h.few
   simp only
   omega
  ·have := (h.each e (List.mem_filter.1 he).1).2
   simp only
   omega
end Go.Proofs.Ytkeeidfpgfdldaa
