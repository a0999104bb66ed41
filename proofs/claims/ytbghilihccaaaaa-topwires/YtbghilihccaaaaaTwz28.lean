/- Texts joined: FiC -/
import Derived.Test.YtbghilihccaaaaaTwz25
import Derived.Test.YtbghilihccaaaaaTwz26
import Derived.Test.YtbghilihccaaaaaTwz27
namespace Go.Proofs.Ytbghilihccaaaaa
open Go.RowKit
set_option linter.unusedVariables false
set_option linter.unusedSimpArgs false
theorem strike_again {α : Type} (k : Lit) (E : List (Lit × α)) : strike k (strike k E) = strike k E := by
  unfold strike
  rw [List.filter_filter]
  simp
theorem hd_ab {B C : Nat} {g : Gm} {h : Hd} {p : Pkt} (t : Int) (H : HdOf B C g.hd h p.f p.s.fam p.s.hi p.s.lo p.d.fam p.d.hi p.d.lo p.pr p.ho p.of p.X) : (moreA g.ab t p).hd = h.ab := by
  unfold moreA
  rcases H with ⟨h0, ax, cx, rfl, _⟩ | ⟨h0, rfl⟩
  · simp only [if_pos h0]; rfl
  · simp only [if_neg h0]; rfl
theorem more_ab {B C : Nat} {g : Gm} {h : Hd} {p : Pkt} (t : Int) (gx cx c4 : Nat) (a4 : Option Addr) (H : HdOf B C g.hd h p.f p.s.fam p.s.hi p.s.lo p.d.fam p.d.hi p.d.lo p.pr p.ho p.of p.X) :
    ((g.at_ t).more h gx cx ⟨p.of, a4, c4, p.dat⟩ p.mo).ab = moreA g.ab t p := by
  have e := hd_ab t H
  unfold moreA at e ⊢
  simp only at e
  rw [e]
  simp only [Gm.ab, List.map_append, List.map_cons, List.map_nil]
  first
    | rfl
    | (congr 1; split <;> split <;> first | rfl | (exfalso; omega))
theorem gfoot_more {B C : Nat} {g : Gm} {h : Hd} {p : Pkt} {t : Int} {gx cx c4 : Nat} {a4 : Option Addr} (H : HdOf B C g.hd h p.f p.s.fam p.s.hi p.s.lo p.d.fam p.d.hi p.d.lo p.pr p.ho p.of p.X) (na : New B a4) (nx : (∃ x, g.pa = some x ∧ x.block = gx) ∨ B ≤ gx) :
    ∀ j, gfoot ((g.at_ t).more h gx cx ⟨p.of, a4, c4, p.dat⟩ p.mo) j → gfoot g j ∨ B ≤ j := by
  rintro j (⟨x, hx, rfl⟩ | ⟨q, hq, x, hx, rfl⟩ | ⟨x, hx, rfl⟩)
  · cases hx
    rcases nx with ⟨x, hx, e⟩ | nx
    · exact .inl (.inl ⟨x, hx, e⟩)
    · exact .inr nx
  · rcases List.mem_append.1 hq with hq | hq
    · exact .inl (.inr (.inl ⟨q, hq, x, hx, rfl⟩))
    · obtain rfl := List.mem_singleton.1 hq
      exact .inr (na x hx)
  · rcases H with ⟨_, ax, cx, rfl, h3, _⟩ | ⟨_, rfl⟩
    · exact .inr (h3 x hx)
    · exact .inl (.inr (.inr ⟨x, hx, rfl⟩))
theorem foot_gram {tb mb : Nat} {G : List (Lit × Gm)} {k : Lit} {j : Nat} (h : gfoot (gramG G k) j) : foot tb mb G j := by
  unfold gramG at h
  cases hl : look k G with
  | none => rw [hl] at h; exact absurd h (gfoot_zero j)
  | some g => rw [hl] at h; exact .inr (.inr ⟨_, look_mem hl, h⟩)
theorem foot_strike {tb mb : Nat} {G : List (Lit × Gm)} {k : Lit} {j : Nat} (h : foot tb mb (strike k G) j) : foot tb mb G j := by
  rcases h with h | h | ⟨p, hp, h⟩
  · exact .inl h
  · exact .inr (.inl h)
  · exact .inr (.inr ⟨p, mem_strike hp, h⟩)
theorem foot_ins {tb mb : Nat} {G : List (Lit × Gm)} {k : Lit} {g : Gm} {j : Nat} (h : foot tb mb (ins (k, g) (strike k G)) j) : foot tb mb G j ∨ gfoot g j := by
  rcases h with h | h | ⟨p, hp, h⟩
  · exact .inl (.inl h)
  · exact .inl (.inr (.inl h))
  · rcases List.mem_cons.1 ((ins_perm (k, g) (strike k G)).mem_iff.1 hp) with rfl | hp
    · exact .inr h
    · exact .inl (.inr (.inr ⟨p, mem_strike hp, h⟩))
theorem row_lt {w : World} {a : Option Addr} {l : List Int} (h : Row w a l) (hl : 1 ≤ l.length) : ∀ x, a = some x → x.block < w.heap.size := fun x hx => by
  obtain ⟨b, off, e, hc⟩ := h.cells (by omega)
  have := World.block_lt_of_cell? _ _ (hc 0 (by omega))
  rw [e] at hx
  cases hx
  exact this
/-- What take leaves. -/
def TakeAt (tb mb : Nat) (G : List (Lit × Gm)) (r : Fs × Pkt × Int) (w : World) (RV : Array Value) (c : Int) (w' : World) : Prop :=
  c = r.2.2 ∧ ∃ G', TabG w' tb mb r.1 G' ∧ (∀ k, foot tb mb G' k → foot tb mb G k ∨ w.heap.size ≤ k) ∧ But (foot tb mb G) w w' ∧ AnsAt w w' (foot tb mb G) RV r.2.1
set_option maxRecDepth 100000 in
set_option maxHeartbeats 2000000 in
theorem take_any (tb mb : Nat) (s : Fs) (G : List (Lit × Gm)) (p : Pkt) (xa : Option Addr) (xc : Nat) (da : Option Addr) (dc : Nat) (w : World) (T : TabG w tb mb s G) (hp : PktOk p) (hw : wrongP p = 0)
    (hdat : Row w da p.dat) (hnil : da = none → dc = 0) (hx : RowI w xa p.X) (hxn : xa = none → xc = 0) :
    Calls Try.prog 34 #[.pointer (some ⟨tb, 0, none⟩), .agg (pkV p xa xc da dc)] w fun e w' => ∃ RV c, e = .returned (.tuple #[.agg RV, .int .i64 c]) ∧ RV.size = 15 ∧ RV.all (·.oneCell') = true ∧ TakeAt tb mb G (takeF s p) w RV c w' := by
  obtain ⟨w0, w1, w2, w3⟩ := wrong_nums hw
  obtain ⟨eg, es⟩ := T.gram p
  obtain ⟨gr, ga, gf⟩ := T.gm (nameK p)
  have hk := key_any p hp
  have hkl := keyLit_name p
  have hv : (toD G).atKey (nameK p) (.held (.agg zeroG.v)) = .held (.agg (gramG G (nameK p)).v) := toD_at (nameK p) G
  have hh : Maps.has (toD G) (nameK p) = (look (nameK p) s.E).isSome := (toD_has (nameK p) G).trans es.symm
  have hz : (Maps.size (toD G) : Int) = s.E.length := by rw [toD_size, T.abs]; simp
  have gok0 := gramA_ok T.ok p
  have gok : AgOk (gramG G (nameK p)).ab := eg ▸ gok0
  have gn := agOk_gmn gok
  have hdl := row_lt hdat w2
  have b0 := T.ok.by_nonneg
  have b1 := T.ok.bytes
  have b2 := T.ok.room
  have gle : (gramG G (nameK p)).size ≤ s.by_ := by have := T.ok.gram_le p; rw [eg] at this; exact this
  have nw := T.ok.now
  have lf := T.ok.life
  have gL : GmL (gramG G (nameK p)) w.heap.size := ⟨fun q hq x hx => (gf _ (.inr (.inl ⟨q, hq, x, hx, rfl⟩))).1, fun x hx => (gf _ (.inr (.inr ⟨x, hx, rfl⟩))).1⟩
  have gO : GmO (gramG G (nameK p)) (fun k => k = tb ∨ k = mb) := gmo_foot fun k hk h => by
    have := gf k hk
    omega
  have few : G.length < maxLen := by
    have h1 := T.ok.few
    have h2 := T.ok.most
    have h3 : G.length = s.E.length := by rw [T.abs]; simp
    have : maxLen = 9223372036854775807 := by decide
    omega
  have sok := takeF_ok T.ok p hw
  by_cases hd : (gramA s p).dead = true
  · have e : takeF s p = (s, pk0, 11) := by unfold takeF; rw [if_pos hd]
    rw [e]
    refine (take_dead tb mb G.length s.most s.room s.life s.now s.by_ (toD G) (gramG G (nameK p)) (nameK p) (nameA p) p.f p.s.fam p.s.hi p.s.lo p.d.fam p.d.hi p.d.lo p.pr p.ho p.fg p.id p.of p.mo xa xc p.X da dc p.dat w T.tab T.map hk hv rfl (by kernel_rfl) (nameOf_any p xa xc da dc) (by rw [eg] at hd; exact hd)).mono ?_
    rintro e w' ⟨rfl, b⟩
    exact ⟨_, _, rfl, rfl, by kernel_rfl, rfl, G, T.below b, fun k hk => .inl hk, But.of_below b _, ans_0 _ _ _⟩
  have hd' : (gramG G (nameK p)).dead = false := by rw [eg] at hd; exact Bool.eq_false_iff.2 hd
  by_cases hc : clashA (gramA s p) p.of p.mo p.dat.length = true
  · have e : takeF s p = ({ s with by_ := s.by_ - (gramA s p).size, E := ins (nameK p, agX (gramA s p).ends) (strike (nameK p) s.E) }, pk0, 11) := by unfold takeF; rw [if_neg hd, if_pos hc]
    rw [e] at sok ⊢
    have hcl : clashB (gramG G (nameK p)) p.of p.mo p.dat.length = true := by rw [clash_ab, ← eg]; exact hc
    refine (take_over tb mb G.length s.most s.room s.life s.now s.by_ (toD G) (gramG G (nameK p)) (nameK p) (nameA p) p.f p.s.fam p.s.hi p.s.lo p.d.fam p.d.hi p.d.lo p.pr p.ho p.fg p.id p.of p.mo xa xc p.X da dc p.dat w T.tab T.map hk hv rfl (by kernel_rfl) (nameOf_any p xa xc da dc) hd' gr gn w0 w1 (by omega) hcl gle (by omega) T.ne few).mono ?_
    rintro e w' ⟨rfl, r1, r2, r3⟩
    have r2 : OwnsG w' mb (G.length + 1) (toD (ins (nameK p, deadG (gramG G (nameK p)).ends) (strike (nameK p) G))) := by
      have h : OwnsG w' mb (G.length + 1) (((toD G).del (nameK p)).put (nameK p) (.held (.agg (deadG (gramG G (nameK p)).ends).v))) := r2
      rw [toD_del, toD_put, strike_again] at h
      exact h
    have b : But (takeB tb mb (gramG G (nameK p))) w w' := (But.refl _ w).trans r3 (fun _ _ h => .inl h)
    have T' := T.laid hkl b (deadG (gramG G (nameK p)).ends) sok (by rw [eg]; rfl) (by rw [eg]; exact r1) r2 ⟨⟨rfl, .inl ⟨rfl, rfl⟩⟩, by simp, rowI_nil w' none, by simp⟩ ⟨by simp, by simp⟩ (fun j hj => absurd hj (gfoot_dead _ j)) (fun j hj => absurd hj (gfoot_dead _ j))
    refine ⟨_, _, rfl, rfl, by kernel_rfl, rfl, _, T', fun k hk => ?_, (But.refl _ w).trans b (fun _ _ h => takeB_foot T h), ans_0 _ _ _⟩
    rcases foot_ins hk with h | h
    · exact .inl h
    · exact absurd h (gfoot_dead _ k)
  have hc' : clashA (gramA s p) p.of p.mo p.dat.length = false := by simpa using hc
  have hcl : clashB (gramG G (nameK p)) p.of p.mo p.dat.length = false := by rw [clash_ab, ← eg]; exact hc'
  by_cases hf : ((look (nameK p) s.E).isSome = false ∧ s.most ≤ s.E.length) ∨ s.room - s.by_ < p.dat.length
  · have e : takeF s p = (s, pk0, 12) := by unfold takeF; rw [if_neg hd, if_neg hc, if_pos hf]
    rw [e]
    have hfl : (Maps.has (toD G) (nameK p) = false ∧ s.most ≤ Maps.size (toD G)) ∨ (s.room - s.by_ < p.dat.length ∧ (Maps.has (toD G) (nameK p) = false → (Maps.size (toD G) : Int) < s.most)) := by
      rw [hh, hz]
      by_cases h1 : (look (nameK p) s.E).isSome = false ∧ s.most ≤ s.E.length
      · exact .inl h1
      · rcases hf with h | h
        · exact absurd h h1
        · refine .inr ⟨h, fun h2 => ?_⟩
          rw [not_and] at h1
          have := h1 h2
          omega
    refine (take_full tb mb G.length s.most s.room s.life s.now s.by_ (toD G) (gramG G (nameK p)) (nameK p) (nameA p) p.f p.s.fam p.s.hi p.s.lo p.d.fam p.d.hi p.d.lo p.pr p.ho p.fg p.id p.of p.mo xa xc p.X da dc p.dat w T.tab T.map hk hv rfl (by kernel_rfl) (nameOf_any p xa xc da dc) hd' gr gn w0 w1 (by omega) hcl b0 (by omega) b2.1 b2.2 T.ne hfl).mono ?_
    rintro e w' ⟨rfl, b⟩
    exact ⟨_, _, rfl, rfl, by kernel_rfl, rfl, G, T.below b, fun k hk => .inl hk, But.of_below b _, ans_0 _ _ _⟩
  rw [not_or, not_and] at hf
  have hroom : (p.dat.length : Int) ≤ s.room - s.by_ := by omega
  have hmost : Maps.has (toD G) (nameK p) = false → (Maps.size (toD G) : Int) < s.most := fun h => by
    rw [hh] at h
    rw [hz]
    have := hf.1 h
    omega
  have ht : timeA s p = if Maps.has (toD G) (nameK p) then (gramG G (nameK p)).ends else s.now + s.life := by
    unfold timeA
    rw [hh, eg]
    rfl
  have mok := moreA_ok gok0 hw hc' (timeA s p)
  have mfew : (gramG G (nameK p)).ps.length + 1 ≤ 65535 := by
    have h1 := mok.few
    have h2 := mok.reach
    have h3 : (moreA (gramA s p) (timeA s p) p).ps.length = (gramG G (nameK p)).ps.length + 1 := by rw [eg]; simp [moreA, Gm.ab]
    omega
  have hfin : ¬ (((look (nameK p) s.E).isSome = false ∧ s.most ≤ s.E.length) ∨ s.room - s.by_ < p.dat.length) := by
    rw [not_or, not_and]; exact hf
  by_cases hwh : wholeA (moreA (gramA s p) (timeA s p) p) = true
  · have e : takeF s p = ({ s with by_ := s.by_ - (gramA s p).size, E := strike (nameK p) s.E }, dataA (moreA (gramA s p) (timeA s p) p), 0) := by unfold takeF; rw [if_neg hd, if_neg hc, if_neg hfin, if_pos hwh]
    rw [e] at sok ⊢
    obtain ⟨N, hN⟩ := Int.eq_ofNat_of_zero_le mok.reach.1
    have hN : (moreA (gramA s p) (timeA s p) p).reach = (N : Int) := hN
    have hNb : N ≤ 65535 := by have := mok.reach.2; omega
    have hr : (if (gramG G (nameK p)).reach < p.of + p.dat.length then p.of + p.dat.length else (gramG G (nameK p)).reach) = (N : Int) := by rw [← hN, eg]; rfl
    have hfit : ∀ q ∈ (gramG G (nameK p)).ps, 0 ≤ q.off ∧ q.off.toNat + q.data.length ≤ N := fun q hq => by
      have h1 : 0 ≤ q.off ∧ q.off ≤ 65528 ∧ 1 ≤ q.data.length ∧ q.off + q.data.length ≤ (moreA (gramA s p) (timeA s p) p).reach := mok.each (q.off, q.data) (by rw [eg]; exact List.mem_append.2 (.inl (List.mem_map.2 ⟨q, hq, rfl⟩)))
      omega
    have hfo : p.of.toNat + p.dat.length ≤ N := by
      have h1 : 0 ≤ p.of ∧ p.of ≤ 65528 ∧ 1 ≤ p.dat.length ∧ p.of + p.dat.length ≤ (moreA (gramA s p) (timeA s p) p).reach := mok.each (p.of, p.dat) (List.mem_append.2 (.inr (by simp)))
      omega
    refine (take_whole tb mb G.length s.most s.room s.life s.now s.by_ (toD G) (gramG G (nameK p)) (nameK p) (nameA p) p.f p.s.fam p.s.hi p.s.lo p.d.fam p.d.hi p.d.lo p.pr p.ho p.fg p.id p.of p.mo xa xc p.X da dc p.dat w T.tab T.map hk hv rfl (by kernel_rfl) (nameOf_any p xa xc da dc) hd' gr gn w0 w1 (by omega) hcl b0 (by omega) b2.1 b2.2 T.ne (timeA s p) ht nw.1 (by omega) (by omega) hroom hmost ga gL gO mfew hdat hnil hdl hx hxn (by rw [eg] at hwh; exact hwh) N hr hNb hfit hfo gle).mono ?_
    rintro e w' ⟨h, a4, c4, gd, rfl, r1, r2, r3, r4, r5, r6, r7⟩
    have e1 := hd_ab (timeA s p) r1
    rw [← eg] at e1
    have e2 : dataA (moreA (gramA s p) (timeA s p) p) = ⟨h.fam, h.s, h.d, h.pr, h.ho, false, 0, 0, false, h.X, paste (List.replicate N 0) ((gramG G (nameK p)).ps ++ [⟨p.of, a4, c4, p.dat⟩])⟩ := by
      unfold dataA
      rw [e1, hN, paste_ab, eg]
      simp [moreA, Gm.ab, Hd.ab]
    have hlen : (paste (List.replicate N 0) ((gramG G (nameK p)).ps ++ [⟨p.of, a4, c4, p.dat⟩])).length = N := by
      rw [paste_length]
      · simp
      · intro q hq
        rw [List.length_replicate]
        rcases List.mem_append.1 hq with hq | hq
        · exact (hfit q hq).2
        · obtain rfl := List.mem_singleton.1 hq
          exact hfo
    have hby : M.Bytes (paste (List.replicate N 0) ((gramG G (nameK p)).ps ++ [⟨p.of, a4, c4, p.dat⟩])) := by
      refine paste_bytes _ _ (zeros_bytes N) (fun q hq => ?_)
      rcases List.mem_append.1 hq with hq | hq
      · exact (gr.each q hq).1.bytes
      · obtain rfl := List.mem_singleton.1 hq
        exact hdat.bytes
    rw [e2]
    have T' := T.struck hkl r7 sok rfl (by rw [eg]; exact r2) r3
    refine ⟨_, _, rfl, rfl, by kernel_rfl, rfl, _, T', fun k hk => .inl (foot_strike hk), (But.refl _ w).trans r7 (fun _ _ h => takeB_foot T h), h.xa, h.xc, some ⟨gd, 0, none⟩, N, by simp only [pkV, hlen], r4, row_blk r5 (by rw [hlen]; omega) hby, fun x hx => ?_, fun x hx => ?_⟩
    · rcases r1 with ⟨_, ax, cx, rfl, h3, _⟩ | ⟨_, rfl⟩
      · exact .inl (h3 x hx)
      · exact .inr (foot_gram (.inr (.inr ⟨x, hx, rfl⟩)))
    · cases hx; exact r6
  · have e : takeF s p = ({ s with by_ := s.by_ + p.dat.length, E := ins (nameK p, moreA (gramA s p) (timeA s p) p) (strike (nameK p) s.E) }, pk0, 19) := by unfold takeF; rw [if_neg hd, if_neg hc, if_neg hfin, if_neg hwh]
    rw [e] at sok ⊢
    refine (take_wait tb mb G.length s.most s.room s.life s.now s.by_ (toD G) (gramG G (nameK p)) (nameK p) (nameA p) p.f p.s.fam p.s.hi p.s.lo p.d.fam p.d.hi p.d.lo p.pr p.ho p.fg p.id p.of p.mo xa xc p.X da dc p.dat w T.tab T.map hk hv rfl (by kernel_rfl) (nameOf_any p xa xc da dc) hd' gr gn w0 w1 (by omega) hcl b0 (by omega) b2.1 b2.2 T.ne (timeA s p) ht nw.1 (by omega) (by omega) hroom hmost ga gL gO mfew hdat hnil hdl hx hxn (by rw [eg] at hwh; exact Bool.eq_false_iff.2 hwh) few).mono ?_
    rintro e w' ⟨rfl, h, gx, cx, a4, c4, r1, r2, r3, r4, r5, r6, r7, r8⟩
    have e1 := more_ab (timeA s p) gx cx c4 a4 r1
    have f1 := gfoot_more (t := timeA s p) (cx := cx) (c4 := c4) r1 r6 r7
    have r3 : OwnsG w' mb (G.length + 1) (toD (ins (nameK p, ((gramG G (nameK p)).at_ (timeA s p)).more h gx cx ⟨p.of, a4, c4, p.dat⟩ p.mo) (strike (nameK p) G))) := by
      rw [← toD_put]; exact r3
    have T' := T.laid hkl r8 (((gramG G (nameK p)).at_ (timeA s p)).more h gx cx ⟨p.of, a4, c4, p.dat⟩ p.mo) sok (by rw [e1, eg]) r2 r3 r4 r5 f1 (fun j hj => by
      rcases hj with ⟨x, hx, rfl⟩ | ⟨q, hq, x, hx, rfl⟩ | ⟨x, hx, rfl⟩
      · exact ownsRow_lt r4.row x hx
      · rcases List.mem_append.1 hq with hq | hq
        · exact Nat.lt_of_lt_of_le (gL.ps q hq x hx) r8.size
        · obtain rfl := List.mem_singleton.1 hq
          exact row_lt (r4.each ⟨p.of, a4, c4, p.dat⟩ (by simp)).1 w2 x hx
      · rcases r1 with ⟨_, ax, cx, rfl, _, h4⟩ | ⟨_, rfl⟩
        · exact h4 x hx
        · exact Nat.lt_of_lt_of_le (gL.xs x hx) r8.size)
    refine ⟨_, _, rfl, rfl, by kernel_rfl, rfl, _, T', fun k hk => ?_, (But.refl _ w).trans r8 (fun _ _ h => takeB_foot T h), ans_0 _ _ _⟩
    rcases foot_ins hk with h | h
    · exact .inl h
    · rcases f1 k h with h | h
      · exact .inl (foot_gram h)
      · exact .inr h
theorem AnsAt.setRow {w W W' : World} {tb mb g : Nat} {s : Fs} {G : List (Lit × Gm)} {RV : Array Value} {a : Pkt} (T : TabG w tb mb s G) (h : AnsAt W W' (foot tb mb G) RV a) (b : Below w.heap.size w W) (lg : w.heap.size ≤ g) (gl : g < W.heap.size) (cs : Array Value) : AnsAt w (W'.setRow g cs) (foot tb mb G) RV a := by
  obtain ⟨xa, xc, da, dc, h1, h2, h3, h4, h5⟩ := h
  have e1 := (But.refl (fun k => k = g) W').setRow g (.inl rfl) cs
  have bs := b.size
  refine ⟨xa, xc, da, dc, h1, h2.but e1 (fun x hx hF => ?_), h3.but e1 (fun x hx hF => ?_), fun x hx => ?_, fun x hx => ?_⟩
  · rcases h4 x hx with h | h
    · omega
    · have := T.lt h
      omega
  · have := h5 x hx
    omega
  · rcases h4 x hx with h | h
    · exact .inl (by omega)
    · exact .inr h
  · have := h5 x hx
    omega
set_option maxRecDepth 100000 in
set_option maxHeartbeats 2000000 in
theorem put_frag (tb mb : Nat) (s : Fs) (G : List (Lit × Gm)) (p : Pkt) (xa : Option Addr) (xc : Nat) (da : Option Addr) (dc : Nat) (w : World) (T : TabG w tb mb s G) (hp : PktOk p) (hfg : p.fg = true)
    (hdat : Row w da p.dat) (hnil : da = none → dc = 0) (hx : RowI w xa p.X) (hxn : xa = none → xc = 0) :
    Calls Try.prog 17 #[.pointer (some ⟨tb, 0, none⟩), .agg (pkV p xa xc da dc)] w fun e w' => ∃ RV c, e = .returned (.tuple #[.agg RV, .int .i64 c]) ∧ TakeAt tb mb G (putF s p) w RV c w' := by
  by_cases hw : wrongP p = 0
  · have e : putF s p = takeF s p := by unfold putF; rw [if_neg (by rw [hfg]; simp), if_neg (by simp [hw])]
    rw [e]
    refine (put_take tb p.f p.s.fam p.s.hi p.s.lo p.d.fam p.d.hi p.d.lo p.pr p.ho p.fg p.id p.of p.mo xa xc p.X da dc p.dat w (T.tab.cell 0 (.bool true) rfl) hdat.small hfg hw (TakeAt tb mb G (takeF s p)) (fun W b => take_any tb mb s G p xa xc da dc W (T.below b) hp hw (hdat.below b) hnil (hx.below b) hxn) ?_).mono ?_
    · rintro W RV c W' b ⟨_, G', _, _, r, _⟩
      exact (But.refl _ W).trans r (fun k _ h => T.lt h)
    · rintro e w' ⟨RV, c, W, W', g, rfl, b, lg, gl, R, ⟨hc, G', T', hf, hb, ha⟩, rfl⟩
      have e1 := (But.refl (fun k => k = g) W').setRow g (.inl rfl) RV
      have bs := b.size
      refine ⟨RV, c, rfl, hc, G', T'.but e1 (fun k hk h => ?_), fun k hk => ?_, ((But.of_below b (foot tb mb G)).trans hb (fun _ _ h => h)).setRow g (.inr lg) _, ha.setRow T b lg gl RV⟩
      · rcases hf k hk with h' | h'
        · have := T.lt h'
          omega
        · omega
      · rcases hf k hk with h' | h'
        · exact .inl h'
        · exact .inr (by omega)
  · have e : putF s p = (s, pk0, wrongP p) := by unfold putF; rw [if_neg (by rw [hfg]; simp), if_pos hw]
    rw [e]
    refine (put_wrong tb p.f p.s.fam p.s.hi p.s.lo p.d.fam p.d.hi p.d.lo p.pr p.ho p.fg p.id p.of p.mo xa xc p.X da dc p.dat w (T.tab.cell 0 (.bool true) rfl) hdat.small hfg hw).mono ?_
    rintro e w' ⟨rfl, b⟩
    exact ⟨_, _, rfl, rfl, G, T.below b, fun k hk => .inl hk, But.of_below b _, ans_0 _ _ _⟩
end Go.Proofs.Ytbghilihccaaaaa
