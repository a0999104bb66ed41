/- Wheels turn nothing of one another's, and what was answered may be written over. -/
import Derived.Test.YtfcpjenlckkloaaWheelPlaysWalk
namespace Go.Proofs.Ytfcpjenlckkloaa
open Go.RowKit
set_option linter.unusedVariables false
set_option linter.unusedSimpArgs false

/-- A wheel beside the document's, and another wheel. -/
structure Tr (w0 w : World) (g gr gb : Nat) (F G Fb : Nat → Prop) (now : Int) (E : List M.Ent) (nb : Int) (Eb : List M.Ent) : Prop where
  pl : Pl w0 w g gr F G now E now E
  b : Wn w0 w gb Fb nb Eb
  ab : ∀ k, F k → ¬ Fb k
  rb : ∀ k, G k → ¬ Fb k
theorem Tr.below {w0 w w' : World} {g gr gb : Nat} {F G Fb : Nat → Prop} {now nb : Int} {E Eb : List M.Ent} (h : Tr w0 w g gr gb F G Fb now E nb Eb) (hb : Below w.heap.size w w') : Tr w0 w' g gr gb F G Fb now E nb Eb := ⟨h.pl.below hb, h.b.below hb, h.ab, h.rb⟩
theorem Pl.other {w0 w w' : World} {g gr : Nat} {F G H : Nat → Prop} {n1 n2 : Int} {E1 E2 : List M.Ent} (h : Pl w0 w g gr F G n1 E1 n2 E2) (hb : But H w w') (hf : ∀ k, F k → ¬ H k) (hg : ∀ k, G k → ¬ H k) (bel : Below w0.heap.size w0 w') : Pl w0 w' g gr F G n1 E1 n2 E2 := ⟨h.wh.other hb hf bel, h.rf.but hb hg, h.new, h.dj⟩
theorem Tr.onB {w0 w w' : World} {g gr gb : Nat} {F G Fb F' : Nat → Prop} {now nb nb' : Int} {E Eb Eb' : List M.Ent} (h : Tr w0 w g gr gb F G Fb now E nb Eb) (hw : Wn w0 w' gb F' nb' Eb') (hb : But Fb w w') (hn : ∀ k, F' k → nx Fb w w' k) : Tr w0 w' g gr gb F G F' now E nb' Eb' :=
  ⟨h.pl.other hb h.ab h.rb hw.bel, hw, fun k x y => nx_apart hn (fun j p q => h.ab j q p) h.pl.wh.whl.lt k y x, fun k x y => nx_apart hn (fun j p q => h.rb j q p) h.pl.rf.lt k y x⟩
theorem Tr.onA {w0 w w' : World} {g gr gb : Nat} {F G Fb F' G' : Nat → Prop} {now nb now' : Int} {E Eb E' : List M.Ent} (h : Tr w0 w g gr gb F G Fb now E nb Eb) (d : Dn w0 w w' g gr F G F' G' now' E') : Tr w0 w' g gr gb F' G' Fb now' E' nb Eb := by
  have hd : ∀ k, Fb k → ¬ (F k ∨ G k) := fun k x y => y.elim (fun z => h.ab k z x) (fun z => h.rb k z x)
  have hn := nx_apart d.grow (G := Fb) (fun k x y => hd k y x) h.b.whl.lt
  exact ⟨d.pl, h.b.other d.but hd d.pl.wh.bel, fun k x => hn k (.inl x), fun k x => hn k (.inr x)⟩
/-- What was answered is written over. -/
theorem Tr.over {w0 w w' : World} {g gr gb : Nat} {F G Fb : Nat → Prop} {now nb : Int} {E Eb : List M.Ent} {gd : Nat} (h : Tr w0 w g gr gb F G Fb now E nb Eb) (hb : But (fun k => k = gd) w w') (n0 : w0.heap.size ≤ gd) (n1 : ¬ F gd) (n2 : ¬ G gd) (n3 : ¬ Fb gd) : Tr w0 w' g gr gb F G Fb now E nb Eb := by
  have bel : Below w0.heap.size w0 w' := h.b.bel.trans (hb.to_below h.b.bel.size (fun k hk e => by omega))
  exact ⟨h.pl.other hb (fun k x e => n1 (e ▸ x)) (fun k x e => n2 (e ▸ x)) bel, h.b.other hb (fun k x e => n3 (e ▸ x)) bel, h.ab, h.rb⟩
set_option maxRecDepth 100000 in
set_option maxHeartbeats 8000000 in
theorem wheelApart_walk (sa : Option Addr) (sc : Nat) (S : List Ac) (ta : Option Addr) (tc : Nat) (T : List Ac) (w : World) (slc : S.length ≤ sc) (scm : sc ≤ 17592186044416) (hS : RowA w sa S) (tlc : T.length ≤ tc) (tcm : tc ≤ 17592186044416) (hT : RowA w ta T) :
    Calls Try.prog 6 #[.slice sa S.length sc, .slice ta T.length tc] w fun e w' => e = .returned (.bool true) ∧ Below w.heap.size w w' := by
  have HS := hidW hS
  have HT := hidW hT
  have k0 := hidW (new_w 0 w rfl)
  obtain ⟨N, hN⟩ : ∃ N : Nat, max (↑S.length : Int) ↑T.length = (N : Int) := ⟨max S.length T.length, by omega⟩
  have hN1 : N ≤ 17592186044416 := by omega
  clear hS hT
  go_enter Try.func6, Try.ntmps6
  go_wp2_with fail
  refine Calls.mono k0.out ?_
  rintro e w1 ⟨F1, ga, rfl, n1⟩
  have k1 := hidW (new_w 0 w1 rfl)
  clear k0
  go_wp2_with fail
  refine Calls.mono k1.out ?_
  rintro e w1' ⟨F2, gb, rfl, n2⟩
  have t2 := Two.make n1 n2
  have k2 := hidW (rnew_any 0 w1')
  have hN0 : rnN 0 = 0 := by decide
  have hR0 : rnR 0 = 0 := by decide
  rw [hN0, hR0] at k2
  clear k1 n1 n2 hN0 hR0
  go_wp2_with fail
  refine Calls.mono k2.out ?_
  rintro e w2 ⟨rfl, b2⟩
  have t3 := t2.below b2
  obtain ⟨Wz, hWz⟩ : ∃ W, w2.alloc (.cells #[.int .i64 0, .slice none 0 0] 29) = W := ⟨_, rfl⟩
  obtain ⟨W3, hW3⟩ : ∃ W, (Wz.setCell ⟨w2.heap.size, 0, none⟩ (.int .i64 0)).setCell ⟨w2.heap.size, 1, none⟩ (.slice none 0 0) = W := ⟨_, rfl⟩
  obtain ⟨rf3, b3, e0, e1, f0, f1, s0⟩ := rf_new hWz hW3
  have tr3 : Tr w W3 ga w2.heap.size gb F1 (fun k => k = w2.heap.size) F2 0 [] 0 [] :=
    ⟨⟨t3.a.below b3, rf3, fun k hk => by rw [hk]; exact t3.a.bel.size, fun k x e => by have := t3.a.whl.lt k x; omega⟩, t3.b.below b3, t3.dj, fun k x y => by have := t3.b.whl.lt k y; omega⟩
  have ka := hidW (alive_any W3)
  have P3 := hidW tr3
  clear k2 t2 t3 b2 b3 tr3 rf3
  go_wp2_with fail
  refine Calls.mono ka.out ?_
  rintro e w4 ⟨rfl, b4⟩
  have P4 := hidW (P3.out.below b4)
  clear ka P3 b4 e0 e1 f0 f1 s0 hWz hW3
  obtain ⟨gr, hgr⟩ : ∃ gr, w2.heap.size = gr := ⟨_, rfl⟩
  rw [hgr] at P4
  go_wp2_with fail
  clear hgr
  go_loopw [51] (fun i wr => ∃ (k : Nat) (F G Fb : Nat → Prop) (now : Int) (E : List M.Ent) (nb : Int) (Eb : List M.Ent), k ≤ N ∧ i = .int .i64 k ∧ Hid (Tr w wr ga gr gb F G Fb now E nb Eb)) (fun i _ => N - (intOf i).toNat)
  case atStart => exact ⟨0, F1, _, F2, 0, [], 0, [], by omega, rfl, P4⟩
  case round =>
    clear P4
    obtain ⟨k, F, G, Fb, now, E, nb, Eb, hk, rfl, tr⟩ := hrel
    by_cases hlt : k < N
    · have i1 : (↑k : Int) < ↑N := by omega
      have i0 : (0 : Int) ≤ ↑k := by omega
      have doesS : Hid (∀ wr (F G Fb : Nat → Prop) (now : Int) (E : List M.Ent) (nb : Int) (Eb : List M.Ent), Tr w wr ga gr gb F G Fb now E nb Eb → k < S.length → ∃ (q : Ac) (b off : Nat), sa = some ⟨b, off, none⟩ ∧ wr.cell? ⟨b, off + k * 3, none⟩ = some (.int .i64 q.kind) ∧ wr.cell? ⟨b, off + k * 3 + 1, none⟩ = some (.int .i64 q.id) ∧ wr.cell? ⟨b, off + k * 3 + 2, none⟩ = some (.int .i64 q.at_) ∧
          Calls Try.prog 12 #[.pointer (some ⟨ga, 0, none⟩), .pointer (some ⟨gr, 0, none⟩), .agg #[.int .i64 q.kind, .int .i64 q.id, .int .i64 q.at_]] wr fun e w' => e = .returned (.bool true) ∧ Hid (∃ (F G Fb : Nat → Prop) (now : Int) (E : List M.Ent) (nb : Int) (Eb : List M.Ent), Tr w w' ga gr gb F G Fb now E nb Eb)) := fun wr F G Fb now E nb Eb t hk => by
        obtain ⟨q, hq⟩ : ∃ q, S[k]? = some q := ⟨_, List.getElem?_eq_getElem hk⟩
        obtain ⟨b, off, h1, _, c0, c1, c2⟩ := (HS.out.below t.b.bel).cells k q hq
        obtain ⟨o0, o1, o2⟩ := HS.out.ok q (List.mem_of_getElem? hq)
        refine ⟨q, b, off, h1, c0, c1, c2, (does_any w wr ga gr F G now E t.pl q o1).mono ?_⟩
        rintro e w' ⟨rfl, F', G', now', E', dn⟩
        exact ⟨rfl, F', G', Fb, now', E', nb, Eb, t.onA dn⟩
      by_cases hkT : k < T.length
      · obtain ⟨q, hq⟩ : ∃ q, T[k]? = some q := ⟨_, List.getElem?_eq_getElem hkT⟩
        obtain ⟨b, off, rfl, hbl, c0, c1, c2⟩ := (HT.out.below tr.out.b.bel).cells k q hq
        obtain ⟨o0, o1, o2⟩ := HT.out.ok q (List.mem_of_getElem? hq)
        have iT : (↑k : Int) < ↑T.length := by omega
        obtain ⟨W1, hW1⟩ : ∃ W1, wr.alloc (.cells #[.int .i64 q.kind, .int .i64 q.id, .int .i64 q.at_] 34) = W1 := ⟨_, rfl⟩
        have bB : Blk W1 wr.heap.size 34 #[.int .i64 q.kind, .int .i64 q.id, .int .i64 q.at_] := hW1 ▸ blk_new wr _ _
        have t1 := tr.out.below (hW1 ▸ (Below.refl _ _).alloc (Nat.le_refl _) _ : Below wr.heap.size wr W1)
        have nB : ¬ Fb wr.heap.size := fun x => Nat.lt_irrefl _ (tr.out.b.whl.lt _ x)
        have e1 := bB.cell 1 _ rfl
        have e2 := bB.cell 2 _ rfl
        have ks := hidW (set_w w W1 gb Fb nb Eb t1.b q.id q.at_ o1)
        have T1 := hidW t1
        have HB := hidW bB
        clear t1 bB tr hq
        go_wp2_with fail
        refine Calls.mono ks.out ?_
        rintro e W2 ⟨F2', rfl, n2, bu2, nx2⟩
        have t2 := T1.out.onB n2 bu2 nx2
        have bb2 := HB.out.but bu2 nB
        have e2' := bb2.cell 2 _ rfl
        have kt := hidW (tick_w w W2 gb F2' nb q.at_ _ n2)
        have T2 := hidW t2
        have hLl : (tickL nb (setS Eb q.id q.at_) q.at_).length ≤ 1024 := by
          obtain ⟨_, fE⟩ := n2.whl.ok
          unfold tickL
          split
          · have := M.due_len (setS Eb q.id q.at_) q.at_
            simp
            omega
          · simp
        clear ks T1 HB t2 bb2 n2 bu2 nx2 e1 e2 hW1 c0 c1 c2
        generalize tickL nb (setS Eb q.id q.at_) q.at_ = DL at *
        go_wp2_with fail
        refine Calls.mono kt.out ?_
        rintro e W3 ⟨Da, Dc, F3, rfl, n3, K3⟩
        have t3 := T2.out.onB n3 K3.but K3.wf
        have ov : Hid (DL.length = 0 ∨ ∃ gd cur, Da = some ⟨gd, 0, none⟩ ∧ Blk W3 gd 3 cur ∧ DL.length ≤ cur.size ∧ w.heap.size ≤ gd ∧ ¬ F gd ∧ ¬ G gd ∧ ¬ F3 gd) := by
          rcases K3.due.cases with ⟨_, _, h3⟩ | ⟨gd, cur, h1, h2, h3, h4, h5, h6⟩
          · simp only at h3
            exact .inl (by rw [h3]; rfl)
          · have hat : Sl.at_ ⟨Da, Dc, DL⟩ gd := ⟨_, h1, rfl⟩
            have hn := K3.new gd hat
            refine .inr ⟨gd, cur, h1, h2, by rw [h5]; exact h3, Nat.le_trans T2.out.b.bel.size hn, fun x => ?_, fun x => ?_, K3.dF gd hat⟩
            · have := T2.out.pl.wh.whl.lt gd x; omega
            · have := T2.out.pl.rf.lt gd x; omega
        have T3 := hidW t3
        generalize setS Eb q.id q.at_ = Eb2 at *
        generalize tickN nb q.at_ = nb3 at *
        generalize tickE nb Eb2 q.at_ = Eb3 at *
        generalize tickR nb q.at_ = RR at *
        clear kt T2 t3 n3 K3 e2'
        go_wp2_with fail
        go_loopw [77] (fun i wr2 => ∃ (m : Nat), m ≤ DL.length ∧ i = .int .i64 m ∧ Hid (Tr w wr2 ga gr gb F G F3 now E nb3 Eb3) ∧ Hid (DL.length = 0 ∨ ∃ gd cur, Da = some ⟨gd, 0, none⟩ ∧ Blk wr2 gd 3 cur ∧ DL.length ≤ cur.size ∧ w.heap.size ≤ gd ∧ ¬ F gd ∧ ¬ G gd ∧ ¬ F3 gd)) (fun i _ => DL.length - (intOf i).toNat)
        case atStart => exact ⟨0, by omega, rfl, T3, ov⟩
        case round =>
          clear T3 ov
          obtain ⟨m, hm, rfl, T4, ov4⟩ := hrel
          by_cases hlt3 : m < DL.length
          · obtain ⟨gd, cur, rfl, B4, hsz, g0, g1, g2, g3⟩ := ov4.out.resolve_left (by omega)
            have cd := B4.cell m (cur[m]'(by omega)) (Array.getElem?_eq_getElem (by omega))
            have fd := B4.frozen m
            have bu : But (fun k => k = gd) wr (wr.setCell ⟨gd, m, none⟩ (.int .i64 (-1))) := (But.refl (fun k => k = gd) wr).setCell gd m (.inl rfl) _
            have T5 := hidW (T4.out.over bu g0 g1 g2 g3)
            have ov5 : Hid (DL.length = 0 ∨ ∃ gd' cur, (some ⟨gd, 0, none⟩ : Option Addr) = some ⟨gd', 0, none⟩ ∧ Blk (wr.setCell ⟨gd, m, none⟩ (.int .i64 (-1))) gd' 3 cur ∧ DL.length ≤ cur.size ∧ w.heap.size ≤ gd' ∧ ¬ F gd' ∧ ¬ G gd' ∧ ¬ F3 gd') := .inr ⟨gd, _, rfl, B4.put m _, by simpa using hsz, g0, g1, g2, g3⟩
            have m1 : (↑m : Int) < ↑DL.length := by omega
            have m0 : (0 : Int) ≤ ↑m := by omega
            clear T4 ov4 B4 bu doesS
            generalize cur[m]'_ = cv at cd
            go_wp2
            exact ⟨⟨m + 1, by omega, int_eq (by omega), T5, ov5⟩, by simp [intOf] <;> omega⟩
          · have m1 : ¬ (↑m : Int) < ↑DL.length := by omega
            clear ov4
            by_cases hkS : k < S.length
            · obtain ⟨qs, bs, offs, rfl, z0, z1, z2, kd⟩ := doesS.out wr _ _ _ _ _ _ _ T4.out hkS
              have kd := hidW kd
              have iS : (↑k : Int) < ↑S.length := by omega
              clear doesS 
              go_wp2_with fail
              refine Calls.mono kd.out ?_
              rintro e w9 ⟨rfl, fin⟩
              clear kd
              go_wp2
              obtain ⟨F9, G9, Fb9, now9, E9, nb9, Eb9, tr9⟩ := fin.out
              exact ⟨⟨k + 1, F9, G9, Fb9, now9, E9, nb9, Eb9, by omega, int_eq (by omega), tr9⟩, by simp [intOf] <;> omega⟩
            · have iS : ¬ (↑k : Int) < ↑S.length := by omega
              clear doesS
              go_wp2
              exact ⟨⟨k + 1, _, _, _, _, _, _, _, by omega, int_eq (by omega), T4⟩, by simp [intOf] <;> omega⟩
      · have iT : ¬ (↑k : Int) < ↑T.length := by omega
        by_cases hkS : k < S.length
        · obtain ⟨qs, bs, offs, rfl, z0, z1, z2, kd⟩ := doesS.out wr _ _ _ _ _ _ _ tr.out hkS
          have kd := hidW kd
          have iS : (↑k : Int) < ↑S.length := by omega
          clear doesS 
          go_wp2_with fail
          refine Calls.mono kd.out ?_
          rintro e w9 ⟨rfl, fin⟩
          clear kd
          go_wp2
          obtain ⟨F9, G9, Fb9, now9, E9, nb9, Eb9, tr9⟩ := fin.out
          exact ⟨⟨k + 1, F9, G9, Fb9, now9, E9, nb9, Eb9, by omega, int_eq (by omega), tr9⟩, by simp [intOf] <;> omega⟩
        · have iS : ¬ (↑k : Int) < ↑S.length := by omega
          clear doesS
          go_wp2
          exact ⟨⟨k + 1, _, _, _, _, _, _, _, by omega, int_eq (by omega), tr⟩, by simp [intOf] <;> omega⟩
    · have i1 : ¬ (↑k : Int) < ↑N := by omega
      have ks := hidW (stands_any w wr ga gr F G now E tr.out.pl)
      have b8 := (tr.out.below (Below.refl wr.heap.size wr).drew).b.bel
      clear tr
      go_wp2_with fail
      refine Calls.mono ks.out ?_
      rintro e W' ⟨rfl, hW'⟩
      rw [hW']
      clear hW' W' ks
      go_wp2
      go_ret
      exact ⟨rfl, b8⟩
end Go.Proofs.Ytfcpjenlckkloaa
