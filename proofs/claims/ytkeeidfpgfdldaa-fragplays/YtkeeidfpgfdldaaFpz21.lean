/- Texts joined: FpA FpB -/
import Derived.Test.YtkeeidfpgfdldaaFpz20
namespace Go.Proofs.Ytkeeidfpgfdldaa
open Go.RowKit
set_option linter.unusedVariables false
set_option linter.unusedSimpArgs false
abbrev Pkt.en (p : Pkt) : Int := p.of + p.dat.length
abbrev Pkt.pc (p : Pkt) : Int × List Int := (p.of, p.dat)
/-- The datagram of some parts. -/
def agOf (t : Int) (ps : List Pkt) : Ag := ps.foldl (fun g p => moreA g t p) ag0
theorem agOf_snoc (t : Int) (ps : List Pkt) (p : Pkt) : agOf t (ps ++ [p]) = moreA (agOf t ps) t p := by simp [agOf]
theorem agOf_nil (t : Int) : agOf t [] = ag0 := rfl
/-- Proof from the end of a list. -/
theorem snoc_ind {α : Type} {P : List α → Prop} (h0 : P []) (h1 : ∀ l a, P l → P (l ++ [a])) : ∀ l, P l := by
 intro l
 have : ∀ m : List α, P m.reverse := by
  intro m
  induction m with
  | nil => exact h0
  | cons a m ih => rw [List.reverse_cons]; exact h1 _ a ih
 have h := this l.reverse
 rwa [List.reverse_reverse] at h
theorem agOf_ps (t : Int) (ps : List Pkt) : (agOf t ps).ps = ps.map (·.pc) := by
 refine snoc_ind (P := fun ps => (agOf t ps).ps = ps.map (·.pc)) rfl (fun l a ih => ?_) ps
 rw [agOf_snoc, List.map_append, ← ih]
 rfl
theorem agOf_dead (t : Int) (ps : List Pkt) : (agOf t ps).dead = false := by
 refine snoc_ind (P := fun ps => (agOf t ps).dead = false) rfl (fun l a ih => ?_) ps
 rw [agOf_snoc, ← ih]
 rfl
theorem agOf_ends (t : Int) (ps : List Pkt) (h : ps ≠ []) : (agOf t ps).ends = t := by
 refine snoc_ind (P := fun ps => ps ≠ [] → (agOf t ps).ends = t) (fun h => absurd rfl h) (fun l a ih _ => ?_) ps h
 rw [agOf_snoc]
 rfl
theorem agOf_last (t : Int) (ps : List Pkt) : (agOf t ps).last = ps.any (fun p => !p.mo) := by
 refine snoc_ind (P := fun ps => (agOf t ps).last = ps.any (fun p => !p.mo)) rfl (fun l a ih => ?_) ps
 rw [agOf_snoc, List.any_append, ← ih]
 simp [moreA]
theorem agOf_size (t : Int) (ps : List Pkt) : (agOf t ps).size = sumA (ps.map (·.pc)) := by
 refine snoc_ind (P := fun ps => (agOf t ps).size = sumA (ps.map (·.pc))) rfl (fun l a ih => ?_) ps
 rw [agOf_snoc, List.map_append, sumA_app, ← ih]
 simp [moreA, sumA]
theorem agOf_reach (t : Int) (ps : List Pkt) : (∀ p ∈ ps, p.en ≤ (agOf t ps).reach) ∧ 0 ≤ (agOf t ps).reach ∧ ((agOf t ps).reach = 0 ∨ ∃ p ∈ ps, p.en = (agOf t ps).reach) := by
 refine snoc_ind (P := fun ps => (∀ p ∈ ps, p.en ≤ (agOf t ps).reach) ∧ 0 ≤ (agOf t ps).reach ∧ ((agOf t ps).reach = 0 ∨ ∃ p ∈ ps, p.en = (agOf t ps).reach)) ⟨by simp, by simp [agOf], .inl rfl⟩ (fun l a ih => ?_) ps
 obtain ⟨h1, h2, h3⟩ := ih
 have e : (agOf t (l ++ [a])).reach = if (agOf t l).reach < a.en then a.en else (agOf t l).reach := by rw [agOf_snoc]; rfl
 rw [e]
 split
 ·rename_i hlt
  refine ⟨fun p hp => ?_, by omega, .inr ⟨a, by simp, rfl⟩⟩
  rcases List.mem_append.1 hp with h | h
  ·have := h1 p h; omega
  ·rw [List.mem_singleton.1 h]; omega
 ·rename_i hlt
  refine ⟨fun p hp => ?_, h2, ?_⟩
  ·rcases List.mem_append.1 hp with h | h
   ·exact h1 p h
   ·rw [List.mem_singleton.1 h]; omega
  ·rcases h3 with h | ⟨p, hp, h⟩
   ·exact .inl h
   ·exact .inr ⟨p, List.mem_append_left _ hp, h⟩
/-- The last part that begins at a place. -/
def nextP (ps : List Pkt) (a : Int) : Option Pkt := (ps.filter fun p => p.of == a).getLast?
theorem nextP_mem {ps : List Pkt} {a : Int} {p : Pkt} (h : nextP ps a = some p) : p ∈ ps ∧ p.of = a := by
 have := List.mem_of_getLast? h
 simpa using this
theorem nextP_some {ps : List Pkt} {a : Int} {p : Pkt} (hp : p ∈ ps) (ha : p.of = a) : ∃ q, nextP ps a = some q := by
 unfold nextP
 cases h : (ps.filter fun p => p.of == a).getLast? with
 | some q => exact ⟨q, rfl⟩
 | none =>
  have : (ps.filter fun p => p.of == a) = [] := List.getLast?_eq_none_iff.1 h
  have hm : p ∈ ps.filter fun p => p.of == a := List.mem_filter.2 ⟨hp, by simpa using ha⟩
  rw [this] at hm
  cases hm
def headA (p : Pkt) : Ah := ⟨p.f, p.s, p.d, p.pr, p.ho, p.X⟩
theorem agOf_hd (t : Int) (ps : List Pkt) (p : Pkt) (h : nextP ps 0 = some p) : (agOf t ps).hd = headA p := by
 have H : ∀ ps, (agOf t ps).hd = match nextP ps 0 with
   | some p => headA p
   | none => ag0.hd := by
  refine snoc_ind rfl (fun l a ih => ?_)
  rw [agOf_snoc]
  unfold nextP at ih ⊢
  rw [List.filter_append]
  show (if a.of = 0 then (⟨a.f, a.s, a.d, a.pr, a.ho, a.X⟩ : Ah) else (agOf t l).hd) = _
  by_cases ha : a.of = 0
  ·rw [if_pos ha]
   have : [a].filter (fun p => p.of == 0) = [a] := by simp [ha]
   rw [this, List.getLast?_append]
   simp [headA]
  ·rw [if_neg ha]
   have : [a].filter (fun p => p.of == 0) = [] := by simp [ha]
   rw [this, List.append_nil]
   exact ih
 rw [H, h]
/-- The parts from a place on, one behind the other, to the last one. -/
def follow : Nat → List Pkt → Int → Option (List Pkt)
 | 0, _, _ => none
 | n + 1, ps, a => match nextP ps a with
  | none => none
  | some p => if p.mo then (follow n ps p.en).map (p :: ·) else some [p]
def chainAt : Int → List Pkt → Int → Prop
 | a, [], e => a = e
 | a, p :: C, e => p.of = a ∧ chainAt p.en C e
theorem follow_chain : ∀ (n : Nat) (ps : List Pkt) (a : Int) (C : List Pkt), follow n ps a = some C → ∃ e, chainAt a C e ∧ (∀ p ∈ C, p ∈ ps) ∧ (∃ z ∈ C, z.mo = false ∧ z.en = e) ∧ (∃ p R, C = p :: R ∧ nextP ps a = some p)
 | 0, _, _, _, h => by cases h
 | n + 1, ps, a, C, h => by
  unfold follow at h
  cases hn : nextP ps a with
  | none => rw [hn] at h; cases h
  | some p =>
   rw [hn] at h
   simp only at h
   obtain ⟨hm, ha⟩ := nextP_mem hn
   split at h
   ·cases hf : follow n ps p.en with
    | none => rw [hf] at h; cases h
    | some D =>
     rw [hf] at h
     cases h
     obtain ⟨e, h1, h2, ⟨z, hz, hz1⟩, _⟩ := follow_chain n ps p.en D hf
     refine ⟨e, ⟨ha, h1⟩, fun q hq => ?_, ⟨z, List.mem_cons_of_mem _ hz, hz1⟩, p, D, rfl, rfl⟩
     rcases List.mem_cons.1 hq with rfl | hq
     ·exact hm
     ·exact h2 q hq
   ·rename_i hmo
    cases h
    refine ⟨p.en, ⟨ha, rfl⟩, fun q hq => ?_, ⟨p, by simp, by simpa using hmo, rfl⟩, p, [], rfl, rfl⟩
    rw [List.mem_singleton.1 hq]
    exact hm
theorem chain_cover : ∀ (C : List Pkt) (a e : Int), chainAt a C e → ∀ x : Int, a ≤ x → x < e → ∃ p ∈ C, p.of ≤ x ∧ x < p.en
 | [], a, e, h, x, h1, h2 => by
  have : a = e := h
  omega
 | p :: C, a, e, h, x, h1, h2 => by
  obtain ⟨ha, hc⟩ := h
  by_cases hx : x < p.en
  ·exact ⟨p, by simp, by omega, hx⟩
  ·obtain ⟨q, hq, hh⟩ := chain_cover C p.en e hc x (by omega) h2
   exact ⟨q, List.mem_cons_of_mem _ hq, hh⟩
theorem chain_len : ∀ (C : List Pkt) (a e : Int), chainAt a C e → ((C.flatMap (·.dat)).length : Int) = e - a
 | [], a, e, h => by
  have : a = e := h
  simp
  omega
 | p :: C, a, e, h => by
  obtain ⟨ha, hc⟩ := h
  have := chain_len C p.en e hc
  simp only [List.flatMap_cons, List.length_append, Pkt.en] at this ⊢
  omega
theorem chain_data : ∀ (C : List Pkt) (a e : Int), chainAt a C e → ∀ p ∈ C, a ≤ p.of ∧ p.dat = ((C.flatMap (·.dat)).drop (p.of - a).toNat).take p.dat.length
 | [], _, _, _, p, hp => by cases hp
 | q :: C, a, e, h, p, hp => by
  obtain ⟨ha, hc⟩ := h
  rcases List.mem_cons.1 hp with rfl | hp
  ·refine ⟨by omega, ?_⟩
   rw [ha, Int.sub_self]
   simp
  ·obtain ⟨h1, h2⟩ := chain_data C q.en e hc p hp
   have h1' : q.of + q.dat.length ≤ p.of := h1
   refine ⟨by omega, ?_⟩
   have e1 : (p.of - a).toNat = q.dat.length + (p.of - q.en).toNat := by simp only [Pkt.en]; omega
   rw [List.flatMap_cons, e1, ← List.drop_drop, List.drop_left]
   exact h2
/-- Parts that do not clash. -/
structure PsOk (ps : List Pkt) (R : Int) : Prop where
 each : ∀ p ∈ ps, 0 ≤ p.of ∧ 1 ≤ p.dat.length ∧ p.en ≤ R
 top : R ≤ 65535
 apart : ∀ p ∈ ps, ∀ q ∈ ps, p = q ∨ p.en ≤ q.of ∨ q.en ≤ p.of
 pw : (ps.map (·.pc)).Pairwise apA
 fin : ∀ p ∈ ps, p.mo = false → p.en = R
theorem cnt_pos : ∀ (ps : List (Int × List Int)) (p : Int × List Int) (x : Nat), p ∈ ps → inA p x = 1 → 1 ≤ cntA ps x
 | [], _, _, h, _ => by cases h
 | q :: ps, p, x, h, hi => by
  simp only [cntA]
  rcases List.mem_cons.1 h with rfl | h
  ·omega
  ·have := cnt_pos ps p x h hi
   omega
theorem cnt_get : ∀ (ps : List (Int × List Int)) (x : Nat), 1 ≤ cntA ps x → ∃ p ∈ ps, p.1 ≤ x ∧ (x : Int) < p.1 + p.2.length
 | [], _, h => by simp [cntA] at h
 | q :: ps, x, h => by
  simp only [cntA] at h
  by_cases hq : q.1 ≤ x ∧ (x : Int) < q.1 + q.2.length
  ·exact ⟨q, by simp, hq⟩
  ·have : inA q x = 0 := by simp [inA, hq]
   obtain ⟨p, hp, hh⟩ := cnt_get ps x (by omega)
   exact ⟨p, List.mem_cons_of_mem _ hp, hh⟩
theorem tot_ge (f : Nat → Nat) : ∀ n, (∀ x, x < n → 1 ≤ f x) → n ≤ tot f n
 | 0, _ => by simp [tot]
 | n + 1, h => by
  have h1 := tot_ge f n (fun x hx => h x (by omega))
  have h2 := h n (by omega)
  simp only [tot]
  omega
theorem follow_of_full {ps : List Pkt} {R : Int} (h : PsOk ps R) (hR : 0 < R) (hl : ∃ z ∈ ps, z.mo = false) (hc : ∀ x : Nat, (x : Int) < R → cntA (ps.map (·.pc)) x = 1) :
  ∀ (n : Nat) (a : Int), 0 ≤ a → a < R → R - a ≤ n → (a = 0 ∨ ∃ p ∈ ps, p.en = a) → ∃ C, follow n ps a = some C
 | 0, a, h0, h1, h2, _ => by omega
 | n + 1, a, h0, h1, h2, h3 => by
  obtain ⟨p', hp', hq1, hq2⟩ := cnt_get (ps.map (·.pc)) a.toNat (by rw [hc a.toNat (by omega)]; omega)
  obtain ⟨q, hq, rfl⟩ := List.mem_map.1 hp'
  have hq1' : q.of ≤ a := by have : q.of ≤ ((a.toNat : Nat) : Int) := hq1; omega
  have hq2' : a < q.en := by have : ((a.toNat : Nat) : Int) < q.of + q.dat.length := hq2; show a < q.of + q.dat.length; omega
  have hqa : q.of = a := by
   rcases h3 with rfl | ⟨p, hp, hpe⟩
   ·have := (h.each q hq).1; omega
   ·have hpl := (h.each p hp).2.1
    have hpe' : p.of + p.dat.length = a := hpe
    rcases h.apart p hp q hq with e | e | e
    ·subst e
     omega
    ·have : p.en ≤ q.of := e
     omega
    ·have : q.en ≤ p.of := e
     omega
  obtain ⟨p, hn⟩ := nextP_some hq hqa
  obtain ⟨hm, ha⟩ := nextP_mem hn
  unfold follow
  rw [hn]
  simp only
  cases hmo : p.mo with
  | false => exact ⟨[p], by simp⟩
  | true =>
   simp only [if_true]
   have hpl := (h.each p hm).2
   have hlt : p.en < R := by
    rcases Int.lt_or_eq_of_le hpl.2 with e | e
    ·exact e
    ·obtain ⟨z, hz, hzm⟩ := hl
     have hze := h.fin z hz hzm
     have hzl := (h.each z hz).2.1
     exfalso
     have e1 : p.of + p.dat.length = R := e
     have e2 : z.of + z.dat.length = R := hze
     rcases h.apart p hm z hz with e' | e' | e'
     ·rw [e', hzm] at hmo
      cases hmo
     ·have : p.en ≤ z.of := e'
      omega
     ·have : z.en ≤ p.of := e'
      omega
   have e1 : p.en = a + p.dat.length := by rw [← ha]
   obtain ⟨C, hC⟩ := follow_of_full h hR hl hc n p.en (by omega) hlt (by omega) (.inr ⟨p, hm, rfl⟩)
   exact ⟨p :: C, by rw [hC]; rfl⟩
/-- A datagram is whole just when its parts can be followed to the last one. -/
theorem whole_follow {ps : List Pkt} {t : Int} (h : PsOk ps (agOf t ps).reach) : wholeA (agOf t ps) = (follow 65536 ps 0).isSome := by
 have hb : ∀ p ∈ ps.map (·.pc), 0 ≤ p.1 ∧ p.1 + (p.2.length : Int) ≤ (((agOf t ps).reach.toNat : Nat) : Int) := fun p hp => by
  obtain ⟨q, hq, rfl⟩ := List.mem_map.1 hp
  have h1 := h.each q hq
  have h2 : q.of + q.dat.length ≤ (agOf t ps).reach := h1.2.2
  refine ⟨h1.1, ?_⟩
  show q.of + q.dat.length ≤ _
  omega
 obtain ⟨_, hr0, _⟩ := agOf_reach t ps
 rw [Bool.eq_iff_iff]
 constructor
 ·intro hw
  simp only [wholeA, Bool.and_eq_true, beq_iff_eq, agOf_last, agOf_size, List.any_eq_true, Bool.not_eq_true'] at hw
  obtain ⟨⟨z, hz, hzm⟩, hs⟩ := hw
  have hR : 0 < (agOf t ps).reach := by
   have := h.each z hz
   have h2 : z.of + z.dat.length ≤ (agOf t ps).reach := this.2.2
   omega
  have hfull := sum_full (ps.map (·.pc)) (agOf t ps).reach.toNat hb h.pw (by rw [hs]; omega)
  obtain ⟨C, hC⟩ := follow_of_full h hR ⟨z, hz, hzm⟩ (fun x hx => hfull x (by omega)) 65536 0 (by omega) hR (by have := h.top; omega) (.inl rfl)
  rw [hC]
  rfl
 ·intro hf
  obtain ⟨C, hC⟩ := Option.isSome_iff_exists.1 hf
  obtain ⟨e, h1, h2, ⟨z, hz, hzm, hze⟩, _⟩ := follow_chain _ _ _ _ hC
  have he := h.fin z (h2 z hz) hzm
  rw [hze] at he
  simp only [wholeA, Bool.and_eq_true, beq_iff_eq, agOf_last, agOf_size, List.any_eq_true, Bool.not_eq_true']
  refine ⟨⟨z, h2 z hz, hzm⟩, ?_⟩
  have hle := sum_le (ps.map (·.pc)) (agOf t ps).reach.toNat hb h.pw
  have htot := tot_cnt (ps.map (·.pc)) (agOf t ps).reach.toNat hb
  have hge := tot_ge (cntA (ps.map (·.pc))) (agOf t ps).reach.toNat (fun x hx => by
   obtain ⟨p, hp, hp1, hp2⟩ := chain_cover C 0 e h1 (x : Int) (by omega) (by omega)
   refine cnt_pos _ p.pc x (List.mem_map.2 ⟨p, h2 p hp, rfl⟩) ?_
   simp only [inA]
   rw [if_pos ⟨hp1, hp2⟩])
  omega
/-- And its bytes are those of the parts, one behind the other. -/
theorem follow_data {ps : List Pkt} {t : Int} (h : PsOk ps (agOf t ps).reach) {C : List Pkt} (hC : follow 65536 ps 0 = some C) :
  pasteA (List.replicate (agOf t ps).reach.toNat 0) (agOf t ps).ps = C.flatMap (·.dat) ∧ ∃ p R, C = p :: R ∧ (agOf t ps).hd = headA p := by
 obtain ⟨e, h1, h2, ⟨z, hz, hzm, hze⟩, p0, R0, hC0, hn0⟩ := follow_chain _ _ _ _ hC
 refine ⟨?_, p0, R0, hC0, agOf_hd t ps p0 hn0⟩
 have he := h.fin z (h2 z hz) hzm
 rw [hze] at he
 have hlen := chain_len C 0 e h1
 rw [agOf_ps]
 have hin : ∀ p ∈ ps, p ∈ C := fun p hp => by
  have hp1 := h.each p hp
  have hp2 : p.of + p.dat.length ≤ (agOf t ps).reach := hp1.2.2
  obtain ⟨c, hc, c1, c2⟩ := chain_cover C 0 e h1 p.of hp1.1 (by omega)
  have c2' : p.of < c.of + c.dat.length := c2
  rcases h.apart p hp c (h2 c hc) with e' | e' | e'
  ·rw [e']; exact hc
  ·have : p.of + p.dat.length ≤ c.of := e'
   omega
  ·have : c.of + c.dat.length ≤ p.of := e'
   omega
 have hfit : ∀ p ∈ ps.map (·.pc), 0 ≤ p.1 ∧ p.1.toNat + p.2.length ≤ (List.replicate (agOf t ps).reach.toNat (0 : Int)).length := fun p hp => by
  obtain ⟨q, hq, rfl⟩ := List.mem_map.1 hp
  have hq1 := h.each q hq
  have hq2 : q.of + q.dat.length ≤ (agOf t ps).reach := hq1.2.2
  rw [List.length_replicate]
  refine ⟨hq1.1, ?_⟩
  show q.of.toNat + q.dat.length ≤ _
  omega
 have hpl := pasteA_length (ps.map (·.pc)) (List.replicate (agOf t ps).reach.toNat 0) (fun p hp => (hfit p hp).2)
 rw [List.length_replicate] at hpl
 apply List.ext_getElem?
 intro x
 by_cases hx : (x : Int) < (agOf t ps).reach
 ·refine paste_agree (C.flatMap (·.dat)) (ps.map (·.pc)) _ (fun p hp => ?_) x (.inl ?_)
  ·obtain ⟨q, hq, rfl⟩ := List.mem_map.1 hp
   have := hfit _ hp
   refine ⟨this.1, this.2, ?_⟩
   have hd := (chain_data C 0 e h1 q (hin q hq)).2
   rw [Int.sub_zero] at hd
   exact hd
  ·obtain ⟨p, hp, hp1, hp2⟩ := chain_cover C 0 e h1 (x : Int) (by omega) (by omega)
   refine cnt_pos _ p.pc x (List.mem_map.2 ⟨p, h2 p hp, rfl⟩) ?_
   simp only [inA]
   rw [if_pos ⟨hp1, hp2⟩]
 ·rw [List.getElem?_eq_none (by omega), List.getElem?_eq_none (by omega)]
/-- A datagram of the document's, by the key of its name. -/
structure Dg where
 key : Lit
 ps : List Pkt
 ends : Int
 dead : Bool
structure Dt where
 most : Int
 room : Int
 life : Int
 now : Int
 gs : List Dg
def clash1 (p q : Pkt) : Bool := (decide (p.of < q.en) && decide (q.of < p.en)) || ((!q.mo && (!p.mo || decide (q.en < p.en))) || (!p.mo && decide (p.en < q.en)))
def clashD (ps : List Pkt) (p : Pkt) : Bool := ps.any (clash1 p)
def sumD (ps : List Pkt) : Int := sumA (ps.map (·.pc))
def bytesD : List Dg → Int
 | [] => 0
 | d :: r => sumD d.ps + bytesD r
def lookD (k : Lit) (gs : List Dg) : Option Dg := look k (gs.map fun d => (d.key, d))
def packD (C : List Pkt) : Pkt := match C with
 | [] => pk0
 | p :: _ => ⟨p.f, p.s, p.d, p.pr, p.ho, false, 0, 0, false, p.X, C.flatMap (·.dat)⟩
def lessD (k : Lit) (gs : List Dg) : List Dg := gs.filter fun d => !d.key.sameKey k
def deadD (k : Lit) (gs : List Dg) : List Dg := gs.map fun d => if d.key.sameKey k then ⟨d.key, [], d.ends, true⟩ else d
def clashO (o : Option Dg) (p : Pkt) : Bool := match o with
 | some g => g.dead || clashD g.ps p
 | none => false
def psO (o : Option Dg) : List Pkt := match o with
 | some g => g.ps
 | none => []
def endO (o : Option Dg) (e : Int) : Int := match o with
 | some g => g.ends
 | none => e
def doneD (t : Dt) (k : Lit) (ps : List Pkt) (e : Int) (o : Option (List Pkt)) : Dt × Pkt × Int := match o with
 | some C => ({ t with gs := lessD k t.gs }, packD C, 0)
 | none => ({ t with gs := lessD k t.gs ++ [⟨k, ps, e, false⟩] }, pk0, 19)
def takeD (t : Dt) (p : Pkt) : Dt × Pkt × Int :=
 if clashO (lookD (nameK p) t.gs) p = true then ({ t with gs := deadD (nameK p) t.gs }, pk0, 11)
 else if ((lookD (nameK p) t.gs).isSome = false ∧ t.most ≤ t.gs.length) ∨ t.room < bytesD t.gs + p.dat.length then (t, pk0, 12)
 else doneD t (nameK p) (psO (lookD (nameK p) t.gs) ++ [p]) (endO (lookD (nameK p) t.gs) (t.now + t.life)) (follow 65536 (psO (lookD (nameK p) t.gs) ++ [p]) 0)
def putD (t : Dt) (p : Pkt) : Dt × Pkt × Int :=
 if p.fg = false then (t, p, 0) else if wrongP p ≠ 0 then (t, pk0, wrongP p) else takeD t p
def tickD (t : Dt) (now : Int) : Dt × Int :=
 if now < t.now ∨ now > 4611684918915760128 then (t, 25) else ({ t with now := now, gs := t.gs.filter fun d => decide (now < d.ends) }, 0)
/-- What a datagram of the document's is for the program. -/
def toAg (d : Dg) : Ag := if d.dead then agX d.ends else agOf d.ends d.ps
structure DgOk (d : Dg) : Prop where
 lit : WideAt.IsKeyLit d.key
 dead : d.dead = true → d.ps = []
 live : d.dead = false → d.ps ≠ [] ∧ PsOk d.ps (agOf d.ends d.ps).reach
structure Rel (s : Fs) (t : Dt) : Prop where
 most : s.most = t.most
 room : s.room = t.room
 life : s.life = t.life
 now : s.now = t.now
 perm : s.E.Perm (t.gs.map fun d => (d.key, toAg d))
 each : ∀ d ∈ t.gs, DgOk d
theorem toAg_size {d : Dg} (h : DgOk d) : (toAg d).size = sumD d.ps := by
 unfold toAg sumD
 cases hd : d.dead with
 | true => rw [h.dead hd]; rfl
 | false => exact agOf_size _ _
theorem toAg_ends {d : Dg} (h : DgOk d) : (toAg d).ends = d.ends := by
 unfold toAg
 cases hd : d.dead with
 | true => rfl
 | false => exact agOf_ends _ _ (h.live hd).1
theorem sizes_map : ∀ {gs : List Dg}, (∀ d ∈ gs, DgOk d) → sizes (gs.map fun d => (d.key, toAg d)) = bytesD gs
 | [], _ => rfl
 | d :: gs, h => by
  have h1 := sizes_map (gs := gs) (fun x hx => h x (List.mem_cons_of_mem _ hx))
  have h2 := toAg_size (h d List.mem_cons_self)
  simp only [List.map_cons, sizes, bytesD, h1, h2]
theorem Rel.bytes {s : Fs} {t : Dt} (h : Rel s t) (hs : FsOk s) : s.by_ = bytesD t.gs := by
 rw [hs.by_, sizes_perm h.perm, sizes_map h.each]
theorem Rel.len {s : Fs} {t : Dt} (h : Rel s t) : s.E.length = t.gs.length := by
 rw [h.perm.length_eq, List.length_map]
theorem Rel.keys {s : Fs} {t : Dt} (h : Rel s t) (hs : FsOk s) : t.gs.Pairwise fun a b => a.key ≠ b.key := by
 have h1 := (h.perm.pairwise_iff (R := fun p q : Lit × Ag => p.1 ≠ q.1) (fun h => Ne.symm h)).1 hs.keys
 rw [List.pairwise_map] at h1
 exact h1
/-- Clashes are the same. -/
theorem clash_same {ps : List Pkt} {t : Int} (h : PsOk ps (agOf t ps).reach) (hne : ps ≠ []) (p : Pkt) : clashA (agOf t ps) p.of p.mo p.dat.length = clashD ps p := by
 obtain ⟨r1, r0, r2⟩ := agOf_reach t ps
 rw [Bool.eq_iff_iff]
 unfold clashA clashD
 rw [agOf_last, agOf_ps]
 simp only [List.any_eq_true, Bool.and_eq_true, Bool.or_eq_true, Bool.not_eq_true', decide_eq_true_eq, clash1, shareA, List.any_map, Function.comp]
 have hreach : ∃ q ∈ ps, q.en = (agOf t ps).reach := by
  rcases r2 with r2 | r2
  ·obtain ⟨q, hq⟩ := List.exists_mem_of_ne_nil ps hne
   have := h.each q hq
   have h2 : q.of + q.dat.length ≤ (agOf t ps).reach := this.2.2
   omega
  ·exact r2
 constructor
 ·intro hc
  split at hc
  ·rename_i hl
   obtain ⟨⟨z, hz, hzm⟩, hh⟩ := hl
   have hze := h.fin z hz hzm
   refine ⟨z, hz, .inr (.inl ⟨hzm, ?_⟩)⟩
   rcases hh with hh | hh
   ·exact .inl hh
   ·refine .inr ?_
    rw [hze]
    exact hh
  ·split at hc
   ·rename_i hl
    obtain ⟨q, hq, hqe⟩ := hreach
    refine ⟨q, hq, .inr (.inr ⟨hl.1, ?_⟩)⟩
    rw [hqe]
    exact hl.2
   ·obtain ⟨q, hq, hh⟩ := List.any_eq_true.1 hc
    simp only [Function.comp, shareA, Bool.and_eq_true, decide_eq_true_eq] at hh
    exact ⟨q, hq, .inl ⟨hh.1, hh.2⟩⟩
 ·rintro ⟨q, hq, hc⟩
  split
  ·rfl
  ·rename_i n1
   split
   ·rfl
   ·rename_i n2
    rcases hc with hc | ⟨hqm, hc⟩ | ⟨hpm, hc⟩
    ·refine List.any_eq_true.2 ⟨q, hq, ?_⟩
     simp only [Function.comp, shareA, Bool.and_eq_true, decide_eq_true_eq]
     exact ⟨hc.1, hc.2⟩
    ·exfalso
     refine n1 ⟨⟨q, hq, hqm⟩, ?_⟩
     have hqe := h.fin q hq hqm
     rcases hc with hc | hc
     ·exact .inl hc
     ·refine .inr ?_
      rw [← hqe]
      exact hc
    ·exfalso
     refine n2 ⟨hpm, ?_⟩
     have := r1 q hq
     show _ < _
     have hc' : p.of + p.dat.length < q.of + q.dat.length := hc
     have h3 : q.of + q.dat.length ≤ (agOf t ps).reach := this
     omega
/-- One part more. -/
theorem PsOk.more {ps : List Pkt} {t : Int} {p : Pkt} (h : ps = [] ∨ PsOk ps (agOf t ps).reach) (hw : wrongP p = 0) (hc : clashA (agOf t ps) p.of p.mo p.dat.length = false) : PsOk (ps ++ [p]) (agOf t (ps ++ [p])).reach := by
 obtain ⟨w1, w2, w3, w4⟩ := wrong_nums hw
 obtain ⟨c1, c2, c3⟩ := clash_apart hc
 obtain ⟨r1, r0, r2⟩ := agOf_reach t ps
 have e : (agOf t (ps ++ [p])).reach = if (agOf t ps).reach < p.en then p.en else (agOf t ps).reach := by rw [agOf_snoc]; rfl
 have hps : ∀ q ∈ ps, 0 ≤ q.of ∧ 1 ≤ q.dat.length ∧ q.en ≤ (agOf t ps).reach := fun q hq => by
  rcases h with h | h
  ·rw [h] at hq; cases hq
  ·exact h.each q hq
 have htop : (agOf t ps).reach ≤ 65535 := by
  rcases h with h | h
  ·rw [h]; simp [agOf]
  ·exact h.top
 have hen : p.en = p.of + p.dat.length := rfl
 have hR : (agOf t ps).reach ≤ (agOf t (ps ++ [p])).reach ∧ p.en ≤ (agOf t (ps ++ [p])).reach := by rw [e]; split <;> omega
 have hap : ∀ q ∈ ps, q.en ≤ p.of ∨ p.en ≤ q.of := fun q hq => c3 q.pc (by rw [agOf_ps]; exact List.mem_map.2 ⟨q, hq, rfl⟩)
 refine ⟨fun q hq => ?_, ?_, fun q hq r hr => ?_, ?_, fun q hq hqm => ?_⟩
 ·rcases List.mem_append.1 hq with hq | hq
  ·have := hps q hq
   exact ⟨this.1, this.2.1, by omega⟩
  ·rw [List.mem_singleton.1 hq]
   exact ⟨w1, w3, hR.2⟩
 ·rw [e]
  split <;> omega
 ·rcases List.mem_append.1 hq with hq | hq <;> rcases List.mem_append.1 hr with hr | hr
  ·rcases h with h | h
   ·rw [h] at hq; cases hq
   ·exact h.apart q hq r hr
  ·rw [List.mem_singleton.1 hr]
   rcases hap q hq with h' | h'
   ·exact .inr (.inl h')
   ·exact .inr (.inr h')
  ·rw [List.mem_singleton.1 hq]
   rcases hap r hr with h' | h'
   ·exact .inr (.inr h')
   ·exact .inr (.inl h')
  ·rw [List.mem_singleton.1 hq, List.mem_singleton.1 hr]
   exact .inl rfl
 ·rw [List.map_append, List.pairwise_append]
  refine ⟨?_, by simp, fun a ha b hb => ?_⟩
  ·rcases h with h | h
   ·rw [h]; exact List.Pairwise.nil
   ·exact h.pw
  ·obtain ⟨q, hq, rfl⟩ := List.mem_map.1 ha
   have hb' : b = p.pc := by simpa using hb
   rw [hb']
   exact hap q hq
 ·rcases List.mem_append.1 hq with hq | hq
  ·have hl : (agOf t ps).last = true := by
    rw [agOf_last]
    exact List.any_eq_true.2 ⟨q, hq, by simp [hqm]⟩
   have hqe : q.en = (agOf t ps).reach := by
    rcases h with h | h
    ·rw [h] at hq; cases hq
    ·exact h.fin q hq hqm
   have := (c1 hl).2
   rw [e, if_neg (by omega)]
   exact hqe
  ·rw [List.mem_singleton.1 hq] at hqm ⊢
   have := c2 hqm
   rw [e]
   split <;> omega
end Go.Proofs.Ytkeeidfpgfdldaa
