/- Texts joined: FpC -/
import Derived.Test.YtkeeidfpgfdldaaFpz21
namespace Go.Proofs.Ytkeeidfpgfdldaa
open Go.RowKit
set_option linter.unusedVariables false
set_option linter.unusedSimpArgs false
theorem same_eq {a k : Lit} (h : a.sameKey k = true) : a = k := by
 have := look_mem (k := k) (l := [(a, ())]) (x := ()) (by simp [look, h])
 simp at this
 exact this.symm
theorem same_self' {k : Lit} (hk : WideAt.IsKeyLit k) : k.sameKey k = true := by
 cases h : k.sameKey k with
 | true => rfl
 | false =>
  have : (k, ()) ∈ strike k [(k, ())] := by simp [strike, h]
  exact absurd rfl (strike_ne hk this)
theorem look_iff {α : Type} {k : Lit} (hk : WideAt.IsKeyLit k) : ∀ {E : List (Lit × α)}, Keys E → ∀ {x : α}, (k, x) ∈ E → look k E = some x
 | [], _, _, h => by cases h
 | e :: E, hE, x, h => by
  have hE' := List.pairwise_cons.1 hE
  rcases List.mem_cons.1 h with h | h
  ·rw [← h]
   simp [look, same_self' hk]
  ·have hne : e.1.sameKey k = false := by
    cases hs : e.1.sameKey k with
    | false => rfl
    | true => exact absurd (same_eq hs) (hE'.1 (k, x) h)
   have := look_iff hk hE'.2 h
   unfold look at this ⊢
   rw [List.find?_cons, hne]
   exact this
theorem look_perm {α : Type} {k : Lit} (hk : WideAt.IsKeyLit k) {E F : List (Lit × α)} (hE : Keys E) (hF : Keys F) (h : E.Perm F) : look k E = look k F := by
 cases hl : look k E with
 | some x => exact (look_iff hk hF (h.mem_iff.1 (look_mem hl))).symm
 | none =>
  cases hl' : look k F with
  | none => rfl
  | some x =>
   have := look_iff hk hE (h.mem_iff.2 (look_mem hl'))
   rw [hl] at this
   cases this
theorem Rel.fkeys {s : Fs} {t : Dt} (h : Rel s t) (hs : FsOk s) {β : Type} (f : Dg → β) : Keys (t.gs.map fun d => (d.key, f d)) := by
 have := h.keys hs
 show List.Pairwise _ _
 rw [List.pairwise_map]
 exact this
theorem Rel.look {s : Fs} {t : Dt} (h : Rel s t) (hs : FsOk s) (p : Pkt) : Go.Proofs.Ytkeeidfpgfdldaa.look (nameK p) s.E = (lookD (nameK p) t.gs).map toAg := by
 rw [look_perm (keyLit_name p) hs.keys (h.fkeys hs toAg) h.perm]
 unfold lookD
 have := look_map toAg (nameK p) (t.gs.map fun d => (d.key, d))
 rw [List.map_map] at this
 exact this
theorem lookD_mem {k : Lit} {gs : List Dg} {g : Dg} (h : lookD k gs = some g) : g ∈ gs ∧ g.key = k := by
 have := look_mem h
 obtain ⟨d, hd, e⟩ := List.mem_map.1 this
 cases e
 exact ⟨hd, rfl⟩
theorem less_map (k : Lit) (gs : List Dg) : (lessD k gs).map (fun d => (d.key, toAg d)) = strike k (gs.map fun d => (d.key, toAg d)) := by
 unfold lessD strike
 rw [List.filter_map]
 rfl
theorem dead_perm {k : Lit} (hk : WideAt.IsKeyLit k) : ∀ {gs : List Dg} {g : Dg}, (gs.Pairwise fun a b => a.key ≠ b.key) → g ∈ gs → g.key = k → ((deadD k gs).map fun d => (d.key, toAg d)).Perm ((k, agX g.ends) :: (lessD k gs).map fun d => (d.key, toAg d))
 | [], _, _, h, _ => by cases h
 | d :: gs, g, hp, h, hg => by
  have hp' := List.pairwise_cons.1 hp
  rcases List.mem_cons.1 h with rfl | h
  ·have hs : g.key.sameKey k = true := by rw [hg]; exact same_self' hk
   have hrest : ∀ x ∈ gs, x.key.sameKey k = false := fun x hx => by
    cases hx' : x.key.sameKey k with
    | false => rfl
    | true => exact absurd (hg.trans (same_eq hx').symm) (hp'.1 x hx)
   have e1 : deadD k gs = gs := by
    unfold deadD
    rw [List.map_congr_left (g := id) (fun x hx => by rw [hrest x hx]; rfl)]
    simp
   have e2 : lessD k gs = gs := by
    unfold lessD
    exact List.filter_eq_self.2 fun x hx => by rw [hrest x hx]; rfl
   have e3 : deadD k (g :: gs) = ⟨g.key, [], g.ends, true⟩ :: gs := by
    have : deadD k (g :: gs) = (if g.key.sameKey k then ⟨g.key, [], g.ends, true⟩ else g) :: deadD k gs := rfl
    rw [this, hs, e1]
    rfl
   have e4 : lessD k (g :: gs) = gs := by
    have : lessD k (g :: gs) = if (!g.key.sameKey k) = true then g :: lessD k gs else lessD k gs := by
     unfold lessD
     rw [List.filter_cons]
    rw [this, hs, e2]
    rfl
   rw [e3, e4, List.map_cons]
   show (((g.key, toAg ⟨g.key, [], g.ends, true⟩) : Lit × Ag) :: _).Perm _
   rw [hg]
   exact List.Perm.refl _
  ·have hs : d.key.sameKey k = false := by
    cases hx' : d.key.sameKey k with
    | false => rfl
    | true => exact absurd ((same_eq hx').trans hg.symm) (hp'.1 g h)
   have e3 : deadD k (d :: gs) = d :: deadD k gs := by
    have : deadD k (d :: gs) = (if d.key.sameKey k then ⟨d.key, [], d.ends, true⟩ else d) :: deadD k gs := rfl
    rw [this, hs]
    rfl
   have e4 : lessD k (d :: gs) = d :: lessD k gs := by
    have : lessD k (d :: gs) = if (!d.key.sameKey k) = true then d :: lessD k gs else lessD k gs := by
     unfold lessD
     rw [List.filter_cons]
    rw [this, hs]
    rfl
   rw [e3, e4, List.map_cons, List.map_cons]
   exact ((dead_perm hk hp'.2 h hg).cons _).trans (List.Perm.swap _ _ _)
theorem clash_0 {p : Pkt} (hw : wrongP p = 0) : clashA ag0 p.of p.mo p.dat.length = false := by
 obtain ⟨w1, w2, w3, w4⟩ := wrong_nums hw
 unfold clashA
 rw [if_neg (by simp), if_neg (by simp; intro _; omega)]
 rfl
theorem less_mem {k : Lit} {gs : List Dg} {d : Dg} (h : d ∈ lessD k gs) : d ∈ gs := (List.mem_filter.1 h).1
theorem dead_mem {k : Lit} {gs : List Dg} {d : Dg} (h : d ∈ deadD k gs) (hk : WideAt.IsKeyLit k) (hok : ∀ x ∈ gs, DgOk x) : DgOk d := by
 obtain ⟨x, hx, rfl⟩ := List.mem_map.1 h
 split
 ·exact ⟨(hok x hx).lit, fun _ => rfl, fun h => by cases h⟩
 ·exact hok x hx
theorem data_pack {ps : List Pkt} {t : Int} (h : PsOk ps (agOf t ps).reach) {C : List Pkt} (hC : follow 65536 ps 0 = some C) : dataA (agOf t ps) = packD C := by
 obtain ⟨h1, p, R, rfl, h2⟩ := follow_data (t := t) h hC
 unfold dataA packD
 rw [h1, h2]
 rfl
set_option maxHeartbeats 1000000 in
theorem take_rel {s : Fs} {t : Dt} (h : Rel s t) (hs : FsOk s) {p : Pkt} (hw : wrongP p = 0) : Rel (takeF s p).1 (takeD t p).1 ∧ (takeF s p).2 = (takeD t p).2 := by
 have hk := keyLit_name p
 have hl := h.look hs p
 have hby := h.bytes hs
 have hlen := h.len
 have hkeys := h.keys hs
 cases hD : lookD (nameK p) t.gs with
 | none =>
  rw [hD] at hl
  have hl' : Go.Proofs.Ytkeeidfpgfdldaa.look (nameK p) s.E = none := hl
  have hg : gramA s p = ag0 := by unfold gramA; rw [hl']; rfl
  have ht : timeA s p = s.now + s.life := by unfold timeA; rw [hl']; rfl
  have hstr : strike (nameK p) s.E = s.E := look_none hl'
  have hcl := clash_0 hw
  have hok : PsOk ([] ++ [p]) (agOf (s.now + s.life) ([] ++ [p])).reach := PsOk.more (.inl rfl) hw (by rw [agOf_nil]; exact hcl)
  have hag : agOf (s.now + s.life) ([] ++ [p]) = moreA ag0 (s.now + s.life) p := agOf_snoc _ [] p
  have hwf := whole_follow hok
  have f1 : ¬ (gramA s p).dead = true := by rw [hg]; simp
  have f2 : ¬ clashA (gramA s p) p.of p.mo p.dat.length = true := by rw [hg, hcl]; simp
  have d1 : ¬ clashO (lookD (nameK p) t.gs) p = true := by rw [hD]; simp [clashO]
  by_cases hfull : s.most ≤ s.E.length ∨ s.room - s.by_ < p.dat.length
  ·have eF : takeF s p = (s, pk0, 12) := by
    unfold takeF
    rw [if_neg f1, if_neg f2, if_pos]
    rcases hfull with hf | hf
    ·exact .inl ⟨by rw [hl']; rfl, hf⟩
    ·exact .inr hf
   have eD : takeD t p = (t, pk0, 12) := by
    unfold takeD
    rw [if_neg d1, if_pos]
    rcases hfull with hf | hf
    ·exact .inl ⟨by rw [hD]; rfl, by rw [← h.most, ← hlen]; exact hf⟩
    ·exact .inr (by rw [← h.room, ← hby]; omega)
   rw [eF, eD]
   exact ⟨h, rfl⟩
  ·have hnow : s.now + s.life = t.now + t.life := by rw [h.now, h.life]
   have f3 : ¬ (((Go.Proofs.Ytkeeidfpgfdldaa.look (nameK p) s.E).isSome = false ∧ s.most ≤ s.E.length) ∨ s.room - s.by_ < p.dat.length) := fun hh => hfull (by
    rcases hh with hf | hf
    ·exact .inl hf.2
    ·exact .inr hf)
   have d3 : ¬ (((lookD (nameK p) t.gs).isSome = false ∧ t.most ≤ t.gs.length) ∨ t.room < bytesD t.gs + p.dat.length) := fun hh => hfull (by
    rw [← h.most, ← hlen, ← h.room, ← hby] at hh
    rcases hh with hf | hf
    ·exact .inl hf.2
    ·exact .inr (by omega))
   have eD : takeD t p = doneD t (nameK p) ([] ++ [p]) (t.now + t.life) (follow 65536 ([] ++ [p]) 0) := by
    unfold takeD
    rw [if_neg d1, if_neg d3, hD]
    rfl
   cases hf : follow 65536 ([] ++ [p]) 0 with
   | some C =>
    rw [hf] at hwf
    have eF : takeF s p = ({ s with by_ := s.by_ - (gramA s p).size, E := strike (nameK p) s.E }, dataA (moreA (gramA s p) (timeA s p) p), 0) := by
     unfold takeF
     rw [if_neg f1, if_neg f2, if_neg f3, if_pos]
     rw [hg, ht, ← hag, hwf]
     rfl
    rw [eF, eD, hf]
    refine ⟨⟨h.most, h.room, h.life, h.now, ?_, fun d hd => h.each d (less_mem hd)⟩, ?_⟩
    ·show (strike (nameK p) s.E).Perm ((lessD (nameK p) t.gs).map _)
     rw [less_map]
     exact h.perm.filter _
    ·show ((dataA (moreA (gramA s p) (timeA s p) p), (0 : Int)) : Pkt × Int) = (packD C, 0)
     rw [hg, ht, ← hag, data_pack hok hf]
   | none =>
    rw [hf] at hwf
    have eF : takeF s p = ({ s with by_ := s.by_ + p.dat.length, E := ins (nameK p, moreA (gramA s p) (timeA s p) p) (strike (nameK p) s.E) }, pk0, 19) := by
     unfold takeF
     rw [if_neg f1, if_neg f2, if_neg f3, if_neg]
     rw [hg, ht, ← hag, hwf]
     simp
    rw [eF, eD, hf]
    refine ⟨⟨h.most, h.room, h.life, h.now, ?_, fun d hd => ?_⟩, rfl⟩
    ·show (ins _ (strike (nameK p) s.E)).Perm ((lessD (nameK p) t.gs ++ [_]).map _)
     rw [List.map_append, less_map]
     refine (ins_perm _ _).trans ?_
     have e : (nameK p, moreA (gramA s p) (timeA s p) p) = (nameK p, toAg ⟨nameK p, [] ++ [p], t.now + t.life, false⟩) := by
      unfold toAg
      simp only [Bool.false_eq_true, if_false]
      rw [hg, ht, ← hnow, hag]
     rw [e]
     refine (List.Perm.cons _ ?_).trans (List.perm_append_comm (l₁ := [_]))
     exact h.perm.filter _
    ·have hd' : d ∈ lessD (nameK p) t.gs ++ [⟨nameK p, [] ++ [p], t.now + t.life, false⟩] := hd
     rcases List.mem_append.1 hd' with hd' | hd'
     ·exact h.each d (less_mem hd')
     ·rw [List.mem_singleton.1 hd']
      refine ⟨hk, (fun hx => by cases hx), fun _ => ⟨by simp, ?_⟩⟩
      rw [← hnow]
      exact hok
 | some g =>
  rw [hD] at hl
  have hl' : Go.Proofs.Ytkeeidfpgfdldaa.look (nameK p) s.E = some (toAg g) := hl
  obtain ⟨hgm, hgk⟩ := lookD_mem hD
  have hgo := h.each g hgm
  have hg : gramA s p = toAg g := by unfold gramA; rw [hl']; rfl
  have ht : timeA s p = g.ends := by
   unfold timeA
   rw [hl', hg]
   exact toAg_ends hgo
  cases hd : g.dead with
  | true =>
   have e1 : toAg g = agX g.ends := by unfold toAg; rw [hd]; rfl
   have eF : takeF s p = (s, pk0, 11) := by
    unfold takeF
    rw [if_pos (by rw [hg, e1])]
   have eD : takeD t p = ({ t with gs := deadD (nameK p) t.gs }, pk0, 11) := by
    unfold takeD
    rw [if_pos (by rw [hD]; simp [clashO, hd])]
   rw [eF, eD]
   refine ⟨⟨h.most, h.room, h.life, h.now, ?_, fun d hd => dead_mem hd hk h.each⟩, rfl⟩
   have e2 : deadD (nameK p) t.gs = t.gs := by
    unfold deadD
    rw [List.map_congr_left (g := id) (fun x hx => ?_)]
    ·simp
    ·cases hx' : x.key.sameKey (nameK p) with
     | false => rfl
     | true =>
      have hxk := same_eq hx'
      have hxg : x = g := by
       have h1 := look_iff hk (h.fkeys hs id) (x := x) (List.mem_map.2 ⟨x, hx, by rw [← hxk]; rfl⟩)
       have h2 : lookD (nameK p) t.gs = some x := h1
       rw [hD] at h2
       cases h2
       rfl
      rw [hxg]
      have := hgo.dead hd
      show (⟨g.key, [], g.ends, true⟩ : Dg) = g
      cases g
      simp only at this hd
      rw [this, hd]
   show s.E.Perm ((deadD (nameK p) t.gs).map _)
   rw [e2]
   exact h.perm
  | false =>
   have e1 : toAg g = agOf g.ends g.ps := by unfold toAg; rw [hd]; rfl
   obtain ⟨hne, hps⟩ := hgo.live hd
   have hcs := clash_same hps hne p
   have f1 : ¬ (gramA s p).dead = true := by rw [hg, e1, agOf_dead]; simp
   cases hc : clashD g.ps p with
   | true =>
    have eF : takeF s p = ({ s with by_ := s.by_ - (gramA s p).size, E := ins (nameK p, agX (gramA s p).ends) (strike (nameK p) s.E) }, pk0, 11) := by
     unfold takeF
     rw [if_neg f1, if_pos (by rw [hg, e1, hcs, hc])]
    have eD : takeD t p = ({ t with gs := deadD (nameK p) t.gs }, pk0, 11) := by
     unfold takeD
     rw [if_pos (by rw [hD]; simp [clashO, hc])]
    rw [eF, eD]
    refine ⟨⟨h.most, h.room, h.life, h.now, ?_, fun d hd => dead_mem hd hk h.each⟩, rfl⟩
    show (ins (nameK p, agX (gramA s p).ends) (strike _ s.E)).Perm ((deadD (nameK p) t.gs).map _)
    rw [hg, toAg_ends hgo]
    refine (ins_perm _ _).trans (List.Perm.trans ?_ (dead_perm hk hkeys hgm hgk).symm)
    refine List.Perm.cons _ ?_
    rw [less_map]
    exact h.perm.filter _
   | false =>
    have f2 : ¬ clashA (gramA s p) p.of p.mo p.dat.length = true := by rw [hg, e1, hcs, hc]; simp
    have d1 : ¬ clashO (lookD (nameK p) t.gs) p = true := by rw [hD]; simp [clashO, hd, hc]
    by_cases hfull : s.room - s.by_ < p.dat.length
    ·have eF : takeF s p = (s, pk0, 12) := by
      unfold takeF
      rw [if_neg f1, if_neg f2, if_pos (.inr hfull)]
     have eD : takeD t p = (t, pk0, 12) := by
      unfold takeD
      rw [if_neg d1, if_pos (.inr (by rw [← h.room, ← hby]; omega))]
     rw [eF, eD]
     exact ⟨h, rfl⟩
    ·have f3 : ¬ (((Go.Proofs.Ytkeeidfpgfdldaa.look (nameK p) s.E).isSome = false ∧ s.most ≤ s.E.length) ∨ s.room - s.by_ < p.dat.length) := fun hh => by
      rcases hh with hf | hf
      ·rw [hl'] at hf
       cases hf.1
      ·exact hfull hf
     have d3 : ¬ (((lookD (nameK p) t.gs).isSome = false ∧ t.most ≤ t.gs.length) ∨ t.room < bytesD t.gs + p.dat.length) := fun hh => by
      rcases hh with hf | hf
      ·rw [hD] at hf
       cases hf.1
      ·rw [← h.room, ← hby] at hf
       omega
     have hcA : clashA (agOf g.ends g.ps) p.of p.mo p.dat.length = false := by rw [hcs]; exact hc
     have hok : PsOk (g.ps ++ [p]) (agOf g.ends (g.ps ++ [p])).reach := PsOk.more (.inr hps) hw hcA
     have hag := agOf_snoc g.ends g.ps p
     have hwf := whole_follow hok
     have eD : takeD t p = doneD t (nameK p) (g.ps ++ [p]) g.ends (follow 65536 (g.ps ++ [p]) 0) := by
      unfold takeD
      rw [if_neg d1, if_neg d3, hD]
      rfl
     cases hf : follow 65536 (g.ps ++ [p]) 0 with
     | some C =>
      rw [hf] at hwf
      have eF : takeF s p = ({ s with by_ := s.by_ - (gramA s p).size, E := strike (nameK p) s.E }, dataA (moreA (gramA s p) (timeA s p) p), 0) := by
       unfold takeF
       rw [if_neg f1, if_neg f2, if_neg f3, if_pos]
       rw [hg, ht, e1, ← hag, hwf]
       rfl
      rw [eF, eD, hf]
      refine ⟨⟨h.most, h.room, h.life, h.now, ?_, fun d hd => h.each d (less_mem hd)⟩, ?_⟩
      ·show (strike (nameK p) s.E).Perm ((lessD (nameK p) t.gs).map _)
       rw [less_map]
       exact h.perm.filter _
      ·show ((dataA (moreA (gramA s p) (timeA s p) p), (0 : Int)) : Pkt × Int) = (packD C, 0)
       rw [hg, ht, e1, ← hag, data_pack hok hf]
     | none =>
      rw [hf] at hwf
      have eF : takeF s p = ({ s with by_ := s.by_ + p.dat.length, E := ins (nameK p, moreA (gramA s p) (timeA s p) p) (strike (nameK p) s.E) }, pk0, 19) := by
       unfold takeF
       rw [if_neg f1, if_neg f2, if_neg f3, if_neg]
       rw [hg, ht, e1, ← hag, hwf]
       simp
      rw [eF, eD, hf]
      refine ⟨⟨h.most, h.room, h.life, h.now, ?_, fun d hd => ?_⟩, rfl⟩
      ·show (ins _ (strike _ s.E)).Perm ((lessD (nameK p) t.gs ++ [_]).map _)
       rw [List.map_append, less_map]
       refine (ins_perm _ _).trans ?_
       have e : (nameK p, moreA (gramA s p) (timeA s p) p) = (nameK p, toAg ⟨nameK p, g.ps ++ [p], g.ends, false⟩) := by
        unfold toAg
        simp only [Bool.false_eq_true, if_false]
        rw [hg, ht, hag]
        show (nameK p, moreA (toAg g) g.ends p) = _
        rw [e1]
       rw [e]
       refine (List.Perm.cons _ ?_).trans (List.perm_append_comm (l₁ := [_]))
       exact h.perm.filter _
      ·have hd' : d ∈ lessD (nameK p) t.gs ++ [⟨nameK p, g.ps ++ [p], g.ends, false⟩] := hd
       rcases List.mem_append.1 hd' with hd' | hd'
       ·exact h.each d (less_mem hd')
       ·rw [List.mem_singleton.1 hd']
        exact ⟨hk, (fun hx => by cases hx), fun _ => ⟨by simp, hok⟩⟩
theorem put_rel {s : Fs} {t : Dt} (h : Rel s t) (hs : FsOk s) (p : Pkt) : Rel (putF s p).1 (putD t p).1 ∧ (putF s p).2 = (putD t p).2 := by
 unfold putF putD
 by_cases hf : p.fg = false
 ·rw [if_pos hf, if_pos hf]
  exact ⟨h, rfl⟩
 rw [if_neg hf, if_neg hf]
 by_cases hw : wrongP p ≠ 0
 ·rw [if_pos hw, if_pos hw]
  exact ⟨h, rfl⟩
 rw [if_neg hw, if_neg hw]
 exact take_rel h hs (by omega)
theorem tick_rel {s : Fs} {t : Dt} (h : Rel s t) (hs : FsOk s) (now : Int) : Rel (tickF s now).1 (tickD t now).1 ∧ (tickF s now).2 = (tickD t now).2 := by
 unfold tickF tickD
 rw [h.now]
 by_cases hf : now < t.now ∨ now > 4611684918915760128
 ·rw [if_pos hf, if_pos hf]
  exact ⟨h, rfl⟩
 rw [if_neg hf, if_neg hf]
 refine ⟨⟨h.most, h.room, h.life, rfl, ?_, fun d hd => h.each d (List.mem_filter.1 hd).1⟩, rfl⟩
 show (s.E.filter _).Perm _
 refine (h.perm.filter _).trans ?_
 rw [List.filter_map]
 refine List.Perm.of_eq ?_
 congr 1
 refine List.filter_congr fun d hd => ?_
 show decide (now < (toAg d).ends) = _
 rw [toAg_ends (h.each d hd)]
theorem rel_new {most room life : Int} : Rel ⟨most, room, life, 0, 0, []⟩ ⟨most, room, life, 0, []⟩ := ⟨rfl, rfl, rfl, rfl, List.Perm.refl _, by simp⟩
end Go.Proofs.Ytkeeidfpgfdldaa
