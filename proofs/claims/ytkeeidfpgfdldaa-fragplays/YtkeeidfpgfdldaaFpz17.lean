/- Texts joined: FiC FiE -/
import Derived.Test.YtkeeidfpgfdldaaFpz15
import Derived.Test.YtkeeidfpgfdldaaFpz16
namespace Go.Proofs.Ytkeeidfpgfdldaa
abbrev fpz17o0 : Oper := { dst := some 16, op := Op.call { callee := Callee.value (.func 31), args := #[.tmp 15], argTypes := #[39] }, type := 39, pos := "frag.go:72", after := #[{ on := 1, ground := Ground.data }], guard := none }
abbrev fpz17o3 : Oper := { dst := some 18, op := Op.load 40 (.tmp 17), type := 40, pos := "frag.go:72", after := #[{ on := 3, ground := Ground.data }], guard := none }
abbrev fpz17o6 : Oper := { dst := some 15, op := Op.load 39 (.tmp 14), type := 39, pos := "frag.go:72", after := #[{ on := 0, ground := Ground.data }], guard := none }
end Go.Proofs.Ytkeeidfpgfdldaa
namespace Go.Proofs.Ytkeeidfpgfdldaa
open Go.RowKit
set_option linter.unusedVariables false
set_option linter.unusedSimpArgs false
theorem strike_again {α : Type} (k : Lit) (E : List (Lit × α)) : strike k (strike k E) = strike k E := by
 unfold strike
 rw [List.filter_filter]
 simp
theorem hd_ab {B C : Nat} {g : Gm} {h : Hd} {p : Pkt} (t : Int) (H : HdOf B C g.hd h p.f p.s.fam p.s.hi p.s.lo p.d.fam p.d.hi p.d.lo p.pr p.ho p.of p.X) : (moreA g.ab t p).hd = h.ab := by
 unfold moreA
 rcases H with ⟨h0, ax, cx, rfl, _⟩ | ⟨h0, rfl⟩
 ·simp only [if_pos h0]; rfl
 ·simp only [if_neg h0]; rfl
theorem more_ab {B C : Nat} {g : Gm} {h : Hd} {p : Pkt} (t : Int) (gx cx c4 : Nat) (a4 : Option Addr) (H : HdOf B C g.hd h p.f p.s.fam p.s.hi p.s.lo p.d.fam p.d.hi p.d.lo p.pr p.ho p.of p.X) :
  ((g.at_ t).more h gx cx ⟨p.of, a4, c4, p.dat⟩ p.mo).ab = moreA g.ab t p := by
 have e := hd_ab t H
 unfold moreA at e ⊢
 simp only at e
 rw [e]
 simp only [Gm.ab, List.map_append, List.map_cons, List.map_nil]
 first
  | rfl
  | (congr 1; split <;> split <;> first | rfl | (exfalso; omega))
theorem gfoot_more {B C : Nat} {g : Gm} {h : Hd} {p : Pkt} {t : Int} {gx cx c4 : Nat} {a4 : Option Addr} (H : HdOf B C g.hd h p.f p.s.fam p.s.hi p.s.lo p.d.fam p.d.hi p.d.lo p.pr p.ho p.of p.X) (na : New B a4) (nx : (∃ x, g.pa = some x ∧ x.block = gx) ∨ B ≤ gx) :
  ∀ j, gfoot ((g.at_ t).more h gx cx ⟨p.of, a4, c4, p.dat⟩ p.mo) j → gfoot g j ∨ B ≤ j := by
 rintro j (⟨x, hx, rfl⟩ | ⟨q, hq, x, hx, rfl⟩ | ⟨x, hx, rfl⟩)
 ·cases hx
  rcases nx with ⟨x, hx, e⟩ | nx
  ·exact .inl (.inl ⟨x, hx, e⟩)
  ·exact .inr nx
 ·rcases List.mem_append.1 hq with hq | hq
  ·exact .inl (.inr (.inl ⟨q, hq, x, hx, rfl⟩))
  ·obtain rfl := List.mem_singleton.1 hq
   exact .inr (na x hx)
 ·rcases H with ⟨_, ax, cx, rfl, h3, _⟩ | ⟨_, rfl⟩
  ·exact .inr (h3 x hx)
  ·exact .inl (.inr (.inr ⟨x, hx, rfl⟩))
theorem foot_gram {tb mb : Nat} {G : List (Lit × Gm)} {k : Lit} {j : Nat} (h : gfoot (gramG G k) j) : foot tb mb G j := by
 unfold gramG at h
 cases hl : look k G with
 | none => rw [hl] at h; exact absurd h (gfoot_zero j)
 | some g => rw [hl] at h; exact .inr (.inr ⟨_, look_mem hl, h⟩)
theorem foot_strike {tb mb : Nat} {G : List (Lit × Gm)} {k : Lit} {j : Nat} (h : foot tb mb (strike k G) j) : foot tb mb G j := by
 rcases h with h | h | ⟨p, hp, h⟩
 ·exact .inl h
 ·exact .inr (.inl h)
 ·exact .inr (.inr ⟨p, mem_strike hp, h⟩)
theorem foot_ins {tb mb : Nat} {G : List (Lit × Gm)} {k : Lit} {g : Gm} {j : Nat} (h : foot tb mb (ins (k, g) (strike k G)) j) : foot tb mb G j ∨ gfoot g j := by
 rcases h with h | h | ⟨p, hp, h⟩
 ·exact .inl (.inl h)
 ·exact .inl (.inr (.inl h))
 ·rcases List.mem_cons.1 ((ins_perm (k, g) (strike k G)).mem_iff.1 hp) with rfl | hp
  ·exact .inr h
  ·exact .inl (.inr (.inr ⟨p, mem_strike hp, h⟩))
theorem row_lt {w : World} {a : Option Addr} {l : List Int} (h : Row w a l) (hl : 1 ≤ l.length) : ∀ x, a = some x → x.block < w.heap.size := fun x hx => by
 obtain ⟨b, off, e, hc⟩ := h.cells (by omega)
 have := World.block_lt_of_cell? _ _ (hc 0 (by omega))
 rw [e] at hx
 cases hx
 exact this
/-- What take leaves. -/
def TakeAt (tb mb : Nat) (G : List (Lit × Gm)) (r : Fs × Pkt × Int) (w : World) (RV : Array Value) (c : Int) (w' : World) : Prop :=
 c = r.2.2 ∧ ∃ G', TabG w' tb mb r.1 G' ∧ (∀ k, foot tb mb G' k → foot tb mb G k ∨ w.heap.size ≤ k) ∧ But (foot tb mb G) w w' ∧ AnsAt w w' (foot tb mb G) RV r.2.1
set_option maxRecDepth 100000 in
set_option maxHeartbeats 2000000 in
theorem take_any (tb mb : Nat) (s : Fs) (G : List (Lit × Gm)) (p : Pkt) (xa : Option Addr) (xc : Nat) (da : Option Addr) (dc : Nat) (w : World) (T : TabG w tb mb s G) (hp : PktOk p) (hw : wrongP p = 0)
  (hdat : Row w da p.dat) (hnil : da = none → dc = 0) (hx : RowI w xa p.X) (hxn : xa = none → xc = 0) :
  Calls Try.prog 34 #[.pointer (some ⟨tb, 0, none⟩), .agg (pkV p xa xc da dc)] w fun e w' => ∃ RV c, e = .returned (.tuple #[.agg RV, .int .i64 c]) ∧ RV.size = 15 ∧ RV.all (·.oneCell') = true ∧ TakeAt tb mb G (takeF s p) w RV c w' := by
 obtain ⟨w0, w1, w2, w3⟩ := wrong_nums hw
 obtain ⟨eg, es⟩ := T.gram p
 obtain ⟨gr, ga, gf⟩ := T.gm (nameK p)
 have hk := key_any p hp
 have hkl := keyLit_name p
 have hv : (toD G).atKey (nameK p) (.held (.agg zeroG.v)) = .held (.agg (gramG G (nameK p)).v) := toD_at (nameK p) G
 have hh : Maps.has (toD G) (nameK p) = (look (nameK p) s.E).isSome := (toD_has (nameK p) G).trans es.symm
 have hz : (Maps.size (toD G) : Int) = s.E.length := by rw [toD_size, T.abs]; simp
 have gok0 := gramA_ok T.ok p
 have gok : AgOk (gramG G (nameK p)).ab := eg ▸ gok0
 have gn := agOk_gmn gok
 have hdl := row_lt hdat w2
 have b0 := T.ok.by_nonneg
 have b1 := T.ok.bytes
 have b2 := T.ok.room
 have gle : (gramG G (nameK p)).size ≤ s.by_ := by have := T.ok.gram_le p; rw [eg] at this; exact this
 have nw := T.ok.now
 have lf := T.ok.life
 have gL : GmL (gramG G (nameK p)) w.heap.size := ⟨fun q hq x hx => (gf _ (.inr (.inl ⟨q, hq, x, hx, rfl⟩))).1, fun x hx => (gf _ (.inr (.inr ⟨x, hx, rfl⟩))).1⟩
 have gO : GmO (gramG G (nameK p)) (fun k => k = tb ∨ k = mb) := gmo_foot fun k hk h => by
  have := gf k hk
  omega
 have few : G.length < maxLen := by
  have h1 := T.ok.few
  have h2 := T.ok.most
  have h3 : G.length = s.E.length := by rw [T.abs]; simp
  have : maxLen = 9223372036854775807 := by decide
  omega
 have sok := takeF_ok T.ok p hw
 by_cases hd : (gramA s p).dead = true
 ·have e : takeF s p = (s, pk0, 11) := by unfold takeF; rw [if_pos hd]
  rw [e]
  refine (take_dead tb mb G.length s.most s.room s.life s.now s.by_ (toD G) (gramG G (nameK p)) (nameK p) (nameA p) p.f p.s.fam p.s.hi p.s.lo p.d.fam p.d.hi p.d.lo p.pr p.ho p.fg p.id p.of p.mo xa xc p.X da dc p.dat w T.tab T.map hk hv rfl (by kernel_rfl) (nameOf_any p xa xc da dc) (by rw [eg] at hd; exact hd)).mono ?_
  rintro e w' ⟨rfl, b⟩
  exact ⟨_, _, rfl, rfl, by kernel_rfl, rfl, G, T.below b, fun k hk => .inl hk, But.of_below b _, ans_0 _ _ _⟩
 have hd' : (gramG G (nameK p)).dead = false := by rw [eg] at hd; exact Bool.eq_false_iff.2 hd
 by_cases hc : clashA (gramA s p) p.of p.mo p.dat.length = true
 ·have e : takeF s p = ({ s with by_ := s.by_ - (gramA s p).size, E := ins (nameK p, agX (gramA s p).ends) (strike (nameK p) s.E) }, pk0, 11) := by unfold takeF; rw [if_neg hd, if_pos hc]
  rw [e] at sok ⊢
  have hcl : clashB (gramG G (nameK p)) p.of p.mo p.dat.length = true := by rw [clash_ab, ← eg]; exact hc
  refine (take_over tb mb G.length s.most s.room s.life s.now s.by_ (toD G) (gramG G (nameK p)) (nameK p) (nameA p) p.f p.s.fam p.s.hi p.s.lo p.d.fam p.d.hi p.d.lo p.pr p.ho p.fg p.id p.of p.mo xa xc p.X da dc p.dat w T.tab T.map hk hv rfl (by kernel_rfl) (nameOf_any p xa xc da dc) hd' gr gn w0 w1 (by omega) hcl gle (by omega) T.ne few).mono ?_
  rintro e w' ⟨rfl, r1, r2, r3⟩
  have r2 : OwnsG w' mb (G.length + 1) (toD (ins (nameK p, deadG (gramG G (nameK p)).ends) (strike (nameK p) G))) := by
   have h : OwnsG w' mb (G.length + 1) (((toD G).del (nameK p)).put (nameK p) (.held (.agg (deadG (gramG G (nameK p)).ends).v))) := r2
   rw [toD_del, toD_put, strike_again] at h
   exact h
  have b : But (takeB tb mb (gramG G (nameK p))) w w' := (But.refl _ w).trans r3 (fun _ _ h => .inl h)
  have T' := T.laid hkl b (deadG (gramG G (nameK p)).ends) sok (by rw [eg]; rfl) (by rw [eg]; exact r1) r2 ⟨⟨rfl, .inl ⟨rfl, rfl⟩⟩, by simp, rowI_nil w' none, by simp⟩ ⟨by simp, by simp⟩ (fun j hj => absurd hj (gfoot_dead _ j)) (fun j hj => absurd hj (gfoot_dead _ j))
  refine ⟨_, _, rfl, rfl, by kernel_rfl, rfl, _, T', fun k hk => ?_, (But.refl _ w).trans b (fun _ _ h => takeB_foot T h), ans_0 _ _ _⟩
  rcases foot_ins hk with h | h
  ·exact .inl h
  ·exact absurd h (gfoot_dead _ k)
 have hc' : clashA (gramA s p) p.of p.mo p.dat.length = false := by simpa using hc
 have hcl : clashB (gramG G (nameK p)) p.of p.mo p.dat.length = false := by rw [clash_ab, ← eg]; exact hc'
 by_cases hf : ((look (nameK p) s.E).isSome = false ∧ s.most ≤ s.E.length) ∨ s.room - s.by_ < p.dat.length
 ·have e : takeF s p = (s, pk0, 12) := by unfold takeF; rw [if_neg hd, if_neg hc, if_pos hf]
  rw [e]
  have hfl : (Maps.has (toD G) (nameK p) = false ∧ s.most ≤ Maps.size (toD G)) ∨ (s.room - s.by_ < p.dat.length ∧ (Maps.has (toD G) (nameK p) = false → (Maps.size (toD G) : Int) < s.most)) := by
   rw [hh, hz]
   by_cases h1 : (look (nameK p) s.E).isSome = false ∧ s.most ≤ s.E.length
   ·exact .inl h1
   ·rcases hf with h | h
    ·exact absurd h h1
    ·refine .inr ⟨h, fun h2 => ?_⟩
     rw [not_and] at h1
     have := h1 h2
     omega
  refine (take_full tb mb G.length s.most s.room s.life s.now s.by_ (toD G) (gramG G (nameK p)) (nameK p) (nameA p) p.f p.s.fam p.s.hi p.s.lo p.d.fam p.d.hi p.d.lo p.pr p.ho p.fg p.id p.of p.mo xa xc p.X da dc p.dat w T.tab T.map hk hv rfl (by kernel_rfl) (nameOf_any p xa xc da dc) hd' gr gn w0 w1 (by omega) hcl b0 (by omega) b2.1 b2.2 T.ne hfl).mono ?_
  rintro e w' ⟨rfl, b⟩
  exact ⟨_, _, rfl, rfl, by kernel_rfl, rfl, G, T.below b, fun k hk => .inl hk, But.of_below b _, ans_0 _ _ _⟩
 rw [not_or, not_and] at hf
 have hroom : (p.dat.length : Int) ≤ s.room - s.by_ := by omega
 have hmost : Maps.has (toD G) (nameK p) = false → (Maps.size (toD G) : Int) < s.most := fun h => by
  rw [hh] at h
  rw [hz]
  have := hf.1 h
  omega
 have ht : timeA s p = if Maps.has (toD G) (nameK p) then (gramG G (nameK p)).ends else s.now + s.life := by
  unfold timeA
  rw [hh, eg]
  rfl
 have mok := moreA_ok gok0 hw hc' (timeA s p)
 have mfew : (gramG G (nameK p)).ps.length + 1 ≤ 65535 := by
  have h1 := mok.few
  have h2 := mok.reach
  have h3 : (moreA (gramA s p) (timeA s p) p).ps.length = (gramG G (nameK p)).ps.length + 1 := by rw [eg]; simp [moreA, Gm.ab]
  omega
 have hfin : ¬ (((look (nameK p) s.E).isSome = false ∧ s.most ≤ s.E.length) ∨ s.room - s.by_ < p.dat.length) := by
  rw [not_or, not_and]; exact hf
 by_cases hwh : wholeA (moreA (gramA s p) (timeA s p) p) = true
 ·have e : takeF s p = ({ s with by_ := s.by_ - (gramA s p).size, E := strike (nameK p) s.E }, dataA (moreA (gramA s p) (timeA s p) p), 0) := by unfold takeF; rw [if_neg hd, if_neg hc, if_neg hfin, if_pos hwh]
  rw [e] at sok ⊢
  obtain ⟨N, hN⟩ := Int.eq_ofNat_of_zero_le mok.reach.1
  have hN : (moreA (gramA s p) (timeA s p) p).reach = (N : Int) := hN
  have hNb : N ≤ 65535 := by have := mok.reach.2; omega
  have hr : (if (gramG G (nameK p)).reach < p.of + p.dat.length then p.of + p.dat.length else (gramG G (nameK p)).reach) = (N : Int) := by rw [← hN, eg]; rfl
  have hfit : ∀ q ∈ (gramG G (nameK p)).ps, 0 ≤ q.off ∧ q.off.toNat + q.data.length ≤ N := fun q hq => by
   have h1 : 0 ≤ q.off ∧ q.off ≤ 65528 ∧ 1 ≤ q.data.length ∧ q.off + q.data.length ≤ (moreA (gramA s p) (timeA s p) p).reach := mok.each (q.off, q.data) (by rw [eg]; exact List.mem_append.2 (.inl (List.mem_map.2 ⟨q, hq, rfl⟩)))
   omega
  have hfo : p.of.toNat + p.dat.length ≤ N := by
   have h1 : 0 ≤ p.of ∧ p.of ≤ 65528 ∧ 1 ≤ p.dat.length ∧ p.of + p.dat.length ≤ (moreA (gramA s p) (timeA s p) p).reach := mok.each (p.of, p.dat) (List.mem_append.2 (.inr (by simp)))
   omega
  refine (take_whole tb mb G.length s.most s.room s.life s.now s.by_ (toD G) (gramG G (nameK p)) (nameK p) (nameA p) p.f p.s.fam p.s.hi p.s.lo p.d.fam p.d.hi p.d.lo p.pr p.ho p.fg p.id p.of p.mo xa xc p.X da dc p.dat w T.tab T.map hk hv rfl (by kernel_rfl) (nameOf_any p xa xc da dc) hd' gr gn w0 w1 (by omega) hcl b0 (by omega) b2.1 b2.2 T.ne (timeA s p) ht nw.1 (by omega) (by omega) hroom hmost ga gL gO mfew hdat hnil hdl hx hxn (by rw [eg] at hwh; exact hwh) N hr hNb hfit hfo gle).mono ?_
  rintro e w' ⟨h, a4, c4, gd, rfl, r1, r2, r3, r4, r5, r6, r7⟩
  have e1 := hd_ab (timeA s p) r1
  rw [← eg] at e1
  have e2 : dataA (moreA (gramA s p) (timeA s p) p) = ⟨h.fam, h.s, h.d, h.pr, h.ho, false, 0, 0, false, h.X, paste (List.replicate N 0) ((gramG G (nameK p)).ps ++ [⟨p.of, a4, c4, p.dat⟩])⟩ := by
   unfold dataA
   rw [e1, hN, paste_ab, eg]
   simp [moreA, Gm.ab, Hd.ab]
  have hlen : (paste (List.replicate N 0) ((gramG G (nameK p)).ps ++ [⟨p.of, a4, c4, p.dat⟩])).length = N := by
   rw [paste_length]
   ·simp
   ·intro q hq
    rw [List.length_replicate]
    rcases List.mem_append.1 hq with hq | hq
    ·exact (hfit q hq).2
    ·obtain rfl := List.mem_singleton.1 hq
     exact hfo
  have hby : M.Bytes (paste (List.replicate N 0) ((gramG G (nameK p)).ps ++ [⟨p.of, a4, c4, p.dat⟩])) := by
   refine paste_bytes _ _ (zeros_bytes N) (fun q hq => ?_)
   rcases List.mem_append.1 hq with hq | hq
   ·exact (gr.each q hq).1.bytes
   ·obtain rfl := List.mem_singleton.1 hq
    exact hdat.bytes
  rw [e2]
  have T' := T.struck hkl r7 sok rfl (by rw [eg]; exact r2) r3
  refine ⟨_, _, rfl, rfl, by kernel_rfl, rfl, _, T', fun k hk => .inl (foot_strike hk), (But.refl _ w).trans r7 (fun _ _ h => takeB_foot T h), h.xa, h.xc, some ⟨gd, 0, none⟩, N, by simp only [pkV, hlen], r4, row_blk r5 (by rw [hlen]; omega) hby, fun x hx => ?_, fun x hx => ?_⟩
  ·rcases r1 with ⟨_, ax, cx, rfl, h3, _⟩ | ⟨_, rfl⟩
   ·exact .inl (h3 x hx)
   ·exact .inr (foot_gram (.inr (.inr ⟨x, hx, rfl⟩)))
  ·cases hx; exact r6
 ·have e : takeF s p = ({ s with by_ := s.by_ + p.dat.length, E := ins (nameK p, moreA (gramA s p) (timeA s p) p) (strike (nameK p) s.E) }, pk0, 19) := by unfold takeF; rw [if_neg hd, if_neg hc, if_neg hfin, if_neg hwh]
  rw [e] at sok ⊢
  refine (take_wait tb mb G.length s.most s.room s.life s.now s.by_ (toD G) (gramG G (nameK p)) (nameK p) (nameA p) p.f p.s.fam p.s.hi p.s.lo p.d.fam p.d.hi p.d.lo p.pr p.ho p.fg p.id p.of p.mo xa xc p.X da dc p.dat w T.tab T.map hk hv rfl (by kernel_rfl) (nameOf_any p xa xc da dc) hd' gr gn w0 w1 (by omega) hcl b0 (by omega) b2.1 b2.2 T.ne (timeA s p) ht nw.1 (by omega) (by omega) hroom hmost ga gL gO mfew hdat hnil hdl hx hxn (by rw [eg] at hwh; exact Bool.eq_false_iff.2 hwh) few).mono ?_
  rintro e w' ⟨rfl, h, gx, cx, a4, c4, r1, r2, r3, r4, r5, r6, r7, r8⟩
  have e1 := more_ab (timeA s p) gx cx c4 a4 r1
  have f1 := gfoot_more (t := timeA s p) (cx := cx) (c4 := c4) r1 r6 r7
  have r3 : OwnsG w' mb (G.length + 1) (toD (ins (nameK p, ((gramG G (nameK p)).at_ (timeA s p)).more h gx cx ⟨p.of, a4, c4, p.dat⟩ p.mo) (strike (nameK p) G))) := by
   rw [← toD_put]; exact r3
  have T' := T.laid hkl r8 (((gramG G (nameK p)).at_ (timeA s p)).more h gx cx ⟨p.of, a4, c4, p.dat⟩ p.mo) sok (by rw [e1, eg]) r2 r3 r4 r5 f1 (fun j hj => by
   rcases hj with ⟨x, hx, rfl⟩ | ⟨q, hq, x, hx, rfl⟩ | ⟨x, hx, rfl⟩
   ·exact ownsRow_lt r4.row x hx
   ·rcases List.mem_append.1 hq with hq | hq
    ·exact Nat.lt_of_lt_of_le (gL.ps q hq x hx) r8.size
    ·obtain rfl := List.mem_singleton.1 hq
     exact row_lt (r4.each ⟨p.of, a4, c4, p.dat⟩ (by simp)).1 w2 x hx
   ·rcases r1 with ⟨_, ax, cx, rfl, _, h4⟩ | ⟨_, rfl⟩
    ·exact h4 x hx
    ·exact Nat.lt_of_lt_of_le (gL.xs x hx) r8.size)
  refine ⟨_, _, rfl, rfl, by kernel_rfl, rfl, _, T', fun k hk => ?_, (But.refl _ w).trans r8 (fun _ _ h => takeB_foot T h), ans_0 _ _ _⟩
  rcases foot_ins hk with h | h
  ·exact .inl h
  ·rcases f1 k h with h | h
   ·exact .inl (foot_gram h)
   ·exact .inr h
theorem AnsAt.setRow {w W W' : World} {tb mb g : Nat} {s : Fs} {G : List (Lit × Gm)} {RV : Array Value} {a : Pkt} (T : TabG w tb mb s G) (h : AnsAt W W' (foot tb mb G) RV a) (b : Below w.heap.size w W) (lg : w.heap.size ≤ g) (gl : g < W.heap.size) (cs : Array Value) : AnsAt w (W'.setRow g cs) (foot tb mb G) RV a := by
 obtain ⟨xa, xc, da, dc, h1, h2, h3, h4, h5⟩ := h
 have e1 := (But.refl (fun k => k = g) W').setRow g (.inl rfl) cs
 have bs := b.size
 refine ⟨xa, xc, da, dc, h1, h2.but e1 (fun x hx hF => ?_), h3.but e1 (fun x hx hF => ?_), fun x hx => ?_, fun x hx => ?_⟩
 ·rcases h4 x hx with h | h
  ·omega
  ·have := T.lt h
   omega
 ·have := h5 x hx
  omega
 ·rcases h4 x hx with h | h
  ·exact .inl (by omega)
  ·exact .inr h
 ·have := h5 x hx
  omega
set_option maxRecDepth 100000 in
set_option maxHeartbeats 2000000 in
theorem put_frag (tb mb : Nat) (s : Fs) (G : List (Lit × Gm)) (p : Pkt) (xa : Option Addr) (xc : Nat) (da : Option Addr) (dc : Nat) (w : World) (T : TabG w tb mb s G) (hp : PktOk p) (hfg : p.fg = true)
  (hdat : Row w da p.dat) (hnil : da = none → dc = 0) (hx : RowI w xa p.X) (hxn : xa = none → xc = 0) :
  Calls Try.prog 17 #[.pointer (some ⟨tb, 0, none⟩), .agg (pkV p xa xc da dc)] w fun e w' => ∃ RV c, e = .returned (.tuple #[.agg RV, .int .i64 c]) ∧ TakeAt tb mb G (putF s p) w RV c w' := by
 by_cases hw : wrongP p = 0
 ·have e : putF s p = takeF s p := by unfold putF; rw [if_neg (by rw [hfg]; simp), if_neg (by simp [hw])]
  rw [e]
  refine (put_take tb p.f p.s.fam p.s.hi p.s.lo p.d.fam p.d.hi p.d.lo p.pr p.ho p.fg p.id p.of p.mo xa xc p.X da dc p.dat w (T.tab.cell 0 (.bool true) rfl) hdat.small hfg hw (TakeAt tb mb G (takeF s p)) (fun W b => take_any tb mb s G p xa xc da dc W (T.below b) hp hw (hdat.below b) hnil (hx.below b) hxn) ?_).mono ?_
  ·rintro W RV c W' b ⟨_, G', _, _, r, _⟩
   exact (But.refl _ W).trans r (fun k _ h => T.lt h)
  ·rintro e w' ⟨RV, c, W, W', g, rfl, b, lg, gl, R, ⟨hc, G', T', hf, hb, ha⟩, rfl⟩
   have e1 := (But.refl (fun k => k = g) W').setRow g (.inl rfl) RV
   have bs := b.size
   refine ⟨RV, c, rfl, hc, G', T'.but e1 (fun k hk h => ?_), fun k hk => ?_, ((But.of_below b (foot tb mb G)).trans hb (fun _ _ h => h)).setRow g (.inr lg) _, ha.setRow T b lg gl RV⟩
   ·rcases hf k hk with h' | h'
    ·have := T.lt h'
     omega
    ·omega
   ·rcases hf k hk with h' | h'
    ·exact .inl h'
    ·exact .inr (by omega)
 ·have e : putF s p = (s, pk0, wrongP p) := by unfold putF; rw [if_neg (by rw [hfg]; simp), if_pos hw]
  rw [e]
  refine (put_wrong tb p.f p.s.fam p.s.hi p.s.lo p.d.fam p.d.hi p.d.lo p.pr p.ho p.fg p.id p.of p.mo xa xc p.X da dc p.dat w (T.tab.cell 0 (.bool true) rfl) hdat.small hfg hw).mono ?_
  rintro e w' ⟨rfl, b⟩
  exact ⟨_, _, rfl, rfl, G, T.below b, fun k hk => .inl hk, But.of_below b _, ans_0 _ _ _⟩
set_option maxRecDepth 100000 in
set_option maxHeartbeats 4000000 in
theorem put_plain (tb mb : Nat) (s : Fs) (G : List (Lit × Gm)) (p : Pkt) (xa : Option Addr) (xc : Nat) (da : Option Addr) (dc : Nat) (w : World) (T : TabG w tb mb s G) (hfg : p.fg = false)
  (hdat : Row w da p.dat) (hnil : da = none → dc = 0) (hx : RowI w xa p.X) (hxn : xa = none → xc = 0) :
  Calls Try.prog 17 #[.pointer (some ⟨tb, 0, none⟩), .agg (pkV p xa xc da dc)] w fun e w' => ∃ RV c, e = .returned (.tuple #[.agg RV, .int .i64 c]) ∧ TakeAt tb mb G (putF s p) w RV c w' := by
 have e0 : putF s p = (s, p, 0) := by unfold putF; rw [if_pos hfg]
 rw [e0]
 obtain ⟨W1, hW1⟩ : ∃ W, w.alloc (.cells (pkV p xa xc da dc) 42) = W := ⟨_, rfl⟩
 obtain ⟨W2, hW2⟩ : ∃ W, W1.alloc (.cells #[.int .i64 0, .int .i64 0, .int .u64 0, .int .u64 0, .int .i64 0, .int .u64 0, .int .u64 0, .int .i64 0, .int .i64 0, .bool false, .int .u32 0, .int .i64 0, .bool false, .slice none 0 0, .slice none 0 0] 42) = W := ⟨_, rfl⟩
 have b1 := bel_nw hW1
 have b2 := bel_al b1 hW2
 have B1 := blk_nw hW1
 have B2 := B1.al hW2
 have R2 := blk_nw hW2
 have n1 : w.heap.size < W1.heap.size := B1.lt
 have K : Hid _ := isMade_at tb true W2 (kept b2 (T.tab.cell 0 (.bool true) rfl))
 have q9 := B2.cell 9 (.bool p.fg) rfl
 rw [hfg] at q9
 have KX : Hid (∀ W, Below w.heap.size w W → Calls Try.prog 31 #[.slice xa p.X.length xc] W fun e w' => ∃ a' c', e = .returned (.slice a' p.X.length c') ∧ OwnsI w' W.heap.size (.slice a' p.X.length c') p.X ∧ Below W.heap.size W w') := fun W hW => cloneI_any xa xc p.X W (hx.below hW) hxn
 have KD : Hid (∀ W, Below w.heap.size w W → Calls Try.prog 32 #[.slice da p.dat.length dc] W fun e w' => ∃ a' c', e = .returned (.slice a' p.dat.length c') ∧ Fresh W w' a' c' p.dat) := fun W hW => clone_any da dc p.dat W (hdat.below hW) hnil
 have HT : Hid (TabG w tb mb s G) := T
 have HS : Hid (p.X.length ≤ 17592186044416) := hx.small
 have HB : Hid (p.dat.length ≤ 140737488355328 ∧ M.Bytes p.dat) := ⟨hdat.small, hdat.bytes⟩
 clear hdat hnil hx hxn hfg T e0
 go_enter Try.func17, Try.ntmps17
 go_wp2_with fail
 refine Calls.mono K.out ?_
 rintro e w' ⟨rfl, hW'⟩
 rw [hW']
 clear hW' w' K
 go_wp2_with fail
 have Bd := B2.drew
 have Rd := R2.drew
 have kd := b2.drew
 have d13 := Bd.cell 13 (.slice xa p.X.length xc) rfl
 have d14 := Bd.cell 14 (.slice da p.dat.length dc) rfl
 refine wp_region_noPanic ?_
 refine wp_region_held_drew (S := fun _ => True) (by kernel_rfl) trivial (fun hHeld => ?_)
 generalize W2.drew = V1 at Bd Rd kd d13 d14 hHeld ⊢
 refine qtk (i := 0) (oi := { dst := some 14, op := Op.fieldAddr 42 (.tmp 3) 9, type := 0, pos := "frag.go:72", after := #[], guard := none }) (v := (.pointer (some ⟨w.heap.size, 13, none⟩))) hHeld ?_ ?_
 ·intro w9 hSw
  try dsimp only at hSw
  go_simp
 try simp only [qpu]
 refine qtk (i := 3) (oi := { dst := some 17, op := Op.fieldAddr 42 (.tmp 3) 10, type := 0, pos := "frag.go:72", after := #[], guard := none }) (v := (.pointer (some ⟨w.heap.size, 14, none⟩))) hHeld ?_ ?_
 ·intro w9 hSw
  try dsimp only at hSw
  go_simp
 try simp only [qpu]
 refine wpAnyH_ready (rs := [1, 4]) (by kernel_rfl) (by simp) ?_
 refine (AllReadyH.cons (o := fpz17o6) rfl (fun K hK => ?A) (AllReadyH.cons (o := fpz17o3) rfl (fun K hK => ?B) AllReadyH.nil))
 case' A =>
  go_simp
  refine hK.out _ _ trivial (fun hHeld => ?_)
  clear hK K
  try simp only [qpu]
  refine wpAnyH_ready (rs := [2, 4]) (by kernel_rfl) (by simp) ?_
  refine (AllReadyH.cons (o := fpz17o0) rfl (fun K hK => ?C) (AllReadyH.cons (o := fpz17o3) rfl (fun K hK => ?D) AllReadyH.nil))
  case' C =>
   go_simp
   refine Calls.mono (KX.out _ kd) ?_
   rintro e V2 ⟨ax, cx, rfl, ox, kx⟩
   refine hK.out _ _ trivial (fun hHeld => ?_)
   clear hK K
   try simp only [qpu]
   have d14 := (Bd.kept kx).cell 14 (.slice da p.dat.length dc) rfl
   refine wpAnyH_ready (rs := [4]) (by kernel_rfl) (by simp) ?_
   refine (AllReadyH.cons (o := fpz17o3) rfl (fun K hK => ?E) AllReadyH.nil)
   go_simp
   refine hK.out _ _ trivial (fun hHeld => ?_)
   clear hK K
   try simp only [qpu]
  case' D =>
   go_simp
   refine hK.out _ _ trivial (fun hHeld => ?_)
   clear hK K
   try simp only [qpu]
   refine wpAnyH_ready (rs := [2]) (by kernel_rfl) (by simp) ?_
   refine (AllReadyH.cons (o := fpz17o0) rfl (fun K hK => ?F) AllReadyH.nil)
   go_simp
   refine Calls.mono (KX.out _ kd) ?_
   rintro e V2 ⟨ax, cx, rfl, ox, kx⟩
   refine hK.out _ _ trivial (fun hHeld => ?_)
   clear hK K
   try simp only [qpu]
   have d14 := (Bd.kept kx).cell 14 (.slice da p.dat.length dc) rfl
 case' B =>
  go_simp
  refine hK.out _ _ trivial (fun hHeld => ?_)
  clear hK K
  try simp only [qpu]
  refine wpAnyH_ready (rs := [1]) (by kernel_rfl) (by simp) ?_
  refine (AllReadyH.cons (o := fpz17o6) rfl (fun K hK => ?J) AllReadyH.nil)
  go_simp
  refine hK.out _ _ trivial (fun hHeld => ?_)
  clear hK K
  try simp only [qpu]
  refine wpAnyH_ready (rs := [2]) (by kernel_rfl) (by simp) ?_
  refine (AllReadyH.cons (o := fpz17o0) rfl (fun K hK => ?H) AllReadyH.nil)
  go_simp
  refine Calls.mono (KX.out _ kd) ?_
  rintro e V2 ⟨ax, cx, rfl, ox, kx⟩
  refine hK.out _ _ trivial (fun hHeld => ?_)
  clear hK K
  try simp only [qpu]
  have d14 := (Bd.kept kx).cell 14 (.slice da p.dat.length dc) rfl
 all_goals (
  have B3 := Bd.kept kx
  have R3 := Rd.kept kx
  have k3 := bel_tr kd kx
  have lW : W1.heap.size < V1.heap.size := Rd.lt
  clear Bd Rd d13 d14 KX
  refine qtk (i := 6) (oi := { dst := some 20, op := Op.fieldAddr 42 (.tmp 3) 9, type := 0, pos := "frag.go:72", after := #[{ on := 0, ground := Ground.phase }, { on := 1, ground := Ground.phase }, { on := 2, ground := Ground.phase }, { on := 3, ground := Ground.phase }, { on := 4, ground := Ground.phase }, { on := 5, ground := Ground.textOnly Departure.lateStoresUnsure }], guard := none }) (v := (.pointer (some ⟨w.heap.size, 13, none⟩))) hHeld ?_ ?_
  ·intro w9 hSw
   try dsimp only at hSw
   go_simp
  try simp only [qpu]
  refine wpAnyH_ready (rs := [5]) (by kernel_rfl) (by simp) ?_
  refine AllReadyH.cons (o := { dst := some 19, op := Op.call { callee := Callee.value (.func 32), args := #[.tmp 18], argTypes := #[40] }, type := 40, pos := "frag.go:72", after := #[{ on := 4, ground := Ground.data }, { on := 2, ground := Ground.chain }], guard := none }) rfl (fun K hK => ?_) AllReadyH.nil
  go_simp
  refine Calls.mono (KD.out _ k3) ?_
  rintro e V3 ⟨ay, cy, rfl, oy⟩
  refine hK.out _ _ trivial (fun hHeld => ?_)
  clear hK K
  try simp only [qpu]
  have B4 := B3.kept oy.below
  have R4 := R3.kept oy.below
  have k4 := bel_tr k3 oy.below
  have z13 := B4.frozen 13
  have c13 := B4.cell 13 (.slice xa p.X.length xc) rfl
  have B5 := B4.put 13 (.slice ax p.X.length cx)
  have R5 := R4.put_other B4 (by omega) 13 (.slice ax p.X.length cx)
  refine wpAnyH_ready (rs := [7]) (by kernel_rfl) (by simp) ?_
  refine AllReadyH.cons (o := { dst := none, op := Op.store 39 (.tmp 20) (.tmp 16), type := 0, pos := "frag.go:72", after := #[{ on := 6, ground := Ground.data }, { on := 2, ground := Ground.data }, { on := 5, ground := Ground.chain }, { on := 0, ground := Ground.phase }, { on := 1, ground := Ground.phase }, { on := 2, ground := Ground.phase }, { on := 3, ground := Ground.phase }, { on := 4, ground := Ground.phase }, { on := 5, ground := Ground.textOnly Departure.lateStoresUnsure }], guard := none }) rfl (fun K hK => ?_) AllReadyH.nil
  go_simp
  refine hK.out _ _ trivial (fun hHeld => ?_)
  clear hK K
  try simp only [qpu]
  refine qtk (i := 8) (oi := { dst := some 21, op := Op.fieldAddr 42 (.tmp 3) 10, type := 0, pos := "frag.go:72", after := #[{ on := 0, ground := Ground.phase }, { on := 1, ground := Ground.phase }, { on := 2, ground := Ground.phase }, { on := 3, ground := Ground.phase }, { on := 4, ground := Ground.phase }, { on := 5, ground := Ground.phase }, { on := 6, ground := Ground.phase }, { on := 7, ground := Ground.phase }], guard := none }) (v := (.pointer (some ⟨w.heap.size, 14, none⟩))) hHeld ?_ ?_
  ·intro w9 hSw
   try dsimp only at hSw
   go_simp
  try simp only [qpu]
  have B6 := B5.put 14 (.slice ay p.dat.length cy)
  have R6 := R5.put_other B5 (by omega) 14 (.slice ay p.dat.length cy)
  have z14 := B5.frozen 14
  have c14 := B5.cell 14 (.slice da p.dat.length dc) rfl
  refine wpAnyH_ready (rs := [9]) (by kernel_rfl) (by simp) ?_
  refine AllReadyH.cons (o := { dst := none, op := Op.store 40 (.tmp 21) (.tmp 19), type := 0, pos := "frag.go:72", after := #[{ on := 8, ground := Ground.data }, { on := 5, ground := Ground.data }, { on := 7, ground := Ground.chain }, { on := 0, ground := Ground.phase }, { on := 1, ground := Ground.phase }, { on := 2, ground := Ground.phase }, { on := 3, ground := Ground.phase }, { on := 4, ground := Ground.phase }, { on := 5, ground := Ground.phase }, { on := 6, ground := Ground.phase }, { on := 7, ground := Ground.phase }], guard := none }) rfl (fun K hK => ?_) AllReadyH.nil
  go_simp
  refine hK.out _ _ trivial (fun hHeld => ?_)
  clear hK K
  try simp only [qpu]
  refine wpAnyH_done (by kernel_rfl) ?_ _
  refine NoPanic.normal ?_
  have B7 : Blk _ w.heap.size 42 (pkV p ax cx ay cy) := B6
  obtain ⟨V6, hV6⟩ : ∃ V, (V3.setCell ⟨w.heap.size, 13, none⟩ (.slice ax p.X.length cx)).setCell ⟨w.heap.size, 14, none⟩ (.slice ay p.dat.length cy) = V := ⟨_, rfl⟩
  have e6 : But (fun k => k = w.heap.size) V3 V6 := by
   rw [← hV6]
   exact ((But.refl (fun k => k = w.heap.size) V3).setCell w.heap.size 13 (.inl rfl) _).setCell w.heap.size 14 (.inl rfl) _
  rw [hV6] at B7 R6
  have HV6 : Hid _ := hV6
  rw [hV6]
  clear hV6 HV6 B6 B5 R5 R4 B4 B3 R3 z13 z14 c13 c14
  have R8 := R6.set (pkV p ax cx ay cy)
  go_wp2_with (first
   | (refine wpList_load_row rfl _ _ rfl w.heap.size (by rfl) _ _ _ _ B7 Try.underlying42 rfl (by kernel_rfl) ?_)
   | (refine wpList_store_row rfl _ _ _ rfl W1.heap.size (pkV p ax cx ay cy) (by rfl) (by rfl) _ _ R6 (by kernel_rfl) (by rfl) (by kernel_rfl) ?_))
  refine ret_cell_tmp (k := 4) (j := 5) Try.f17 (by kernel_rfl) R8 Try.underlying42 (by kernel_rfl) (by rfl) (by rfl) rfl ⟨_, _, rfl, rfl, G, ?_, fun k hk => .inl hk, ?_, ?_⟩
  ·refine (HT.out.below k4).but (F := fun k => k = w.heap.size ∨ k = W1.heap.size) (((But.refl (fun k => k = w.heap.size ∨ k = W1.heap.size) V3).trans e6 (fun _ _ h => .inl h)).setRow W1.heap.size (.inl (.inr rfl)) _) (fun k hk h => ?_)
   have := HT.out.lt hk
   omega
  ·have h1 : But (foot tb mb G) w V3 := But.of_below k4 _
   have h2 : But (foot tb mb G) w V6 := ⟨e6.os.trans h1.os, e6.tape.trans h1.tape, e6.output.trans h1.output, Nat.le_trans h1.size e6.size, fun k hk hn => (e6.block k (Nat.lt_of_lt_of_le hk h1.size) (by omega)).trans (h1.block k hk hn)⟩
   exact h2.setRow W1.heap.size (.inr (by omega)) _
  ·have g2 := ownsI_new_of (ox.below oy.below)
   have g3 := owns_new_of oy.owns
   have l2 : V1.heap.size ≤ V2.heap.size := kx.size
   have r2 := (ox.below oy.below).row HS.out
   have r3 := oy.owns.row HB.out.1 HB.out.2
   have e7 : But (fun k => k = w.heap.size ∨ k = W1.heap.size) V3 (V6.setRow W1.heap.size (pkV p ax cx ay cy)) := ((But.refl _ V3).trans e6 (fun _ _ h => .inl h)).setRow W1.heap.size (.inl (.inr rfl)) _
   refine ⟨ax, cx, ay, cy, rfl, r2.but e7 (fun x hx hF => ?_), r3.but e7 (fun x hx hF => ?_), fun x hx => .inl ?_, fun x hx => ?_⟩
   ·have := g2.1 x hx; omega
   ·have := g3.1 x hx; omega
   ·have := g2.1 x hx; omega
   ·have := g3.1 x hx; omega
 )
end Go.Proofs.Ytkeeidfpgfdldaa
