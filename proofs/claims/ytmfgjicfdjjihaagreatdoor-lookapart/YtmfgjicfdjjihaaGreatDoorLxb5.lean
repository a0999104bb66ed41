/- For every input the law LookApart returns true and leaves its arguments as they were; the variables that its row lists hold what they are listed with (the card ties them to the program's text). -/
import Derived.Test.YtmfgjicfdjjihaaGreatDoorLxa0
import Derived.Test.YtmfgjicfdjjihaaGreatDoorLxa1
import Derived.Test.YtmfgjicfdjjihaaGreatDoorLxa2
import Derived.Test.YtmfgjicfdjjihaaGreatDoorLxa3
import Derived.Test.YtmfgjicfdjjihaaGreatDoorLxa4
import Derived.Test.YtmfgjicfdjjihaaGreatDoorLxa5
import Derived.Test.YtmfgjicfdjjihaaGreatDoorLxa6
import Derived.Test.YtmfgjicfdjjihaaGreatDoorLxa7
import Derived.Test.YtmfgjicfdjjihaaGreatDoorLxa8
import Derived.Test.YtmfgjicfdjjihaaGreatDoorLxa9
import Derived.Test.YtmfgjicfdjjihaaGreatDoorLxa10
import Derived.Test.YtmfgjicfdjjihaaGreatDoorLxa11
import Derived.Test.YtmfgjicfdjjihaaGreatDoorLxa12
import Derived.Test.YtmfgjicfdjjihaaGreatDoorLxa13
import Derived.Test.YtmfgjicfdjjihaaGreatDoorLxa14
import Derived.Test.YtmfgjicfdjjihaaGreatDoorLxa15
import Derived.Test.YtmfgjicfdjjihaaGreatDoorLxa16
import Derived.Test.YtmfgjicfdjjihaaGreatDoorLxa17
import Derived.Test.YtmfgjicfdjjihaaGreatDoorLxa18
import Derived.Test.YtmfgjicfdjjihaaGreatDoorLxa19
import Derived.Test.YtmfgjicfdjjihaaGreatDoorLxa20
import Derived.Test.YtmfgjicfdjjihaaGreatDoorLxa21
import Derived.Test.YtmfgjicfdjjihaaGreatDoorLxa22
import Derived.Test.YtmfgjicfdjjihaaGreatDoorLxa23
import Derived.Test.YtmfgjicfdjjihaaGreatDoorLxa24
import Derived.Test.YtmfgjicfdjjihaaGreatDoorLxa25
import Derived.Test.YtmfgjicfdjjihaaGreatDoorLxa26
import Derived.Test.YtmfgjicfdjjihaaGreatDoorLxa27
import Derived.Test.YtmfgjicfdjjihaaGreatDoorLxa28
import Derived.Test.YtmfgjicfdjjihaaGreatDoorLxa29
import Derived.Test.YtmfgjicfdjjihaaGreatDoorLxa30
import Derived.Test.YtmfgjicfdjjihaaGreatDoorLxa31
import Derived.Test.YtmfgjicfdjjihaaGreatDoorLxa32
import Derived.Test.YtmfgjicfdjjihaaGreatDoorLxa33
import Derived.Test.YtmfgjicfdjjihaaGreatDoorLxa34
import Derived.Test.YtmfgjicfdjjihaaGreatDoorLxa35
import Derived.Test.YtmfgjicfdjjihaaGreatDoorLxa36
import Derived.Test.YtmfgjicfdjjihaaGreatDoorLxa37
import Derived.Test.YtmfgjicfdjjihaaGreatDoorLxa38
import Derived.Test.YtmfgjicfdjjihaaGreatDoorLxa39
import Derived.Test.YtmfgjicfdjjihaaGreatDoorLxa40
import Derived.Test.YtmfgjicfdjjihaaGreatDoorLxa41
import Derived.Test.YtmfgjicfdjjihaaGreatDoorLxa42
import Derived.Test.YtmfgjicfdjjihaaGreatDoorLxb1
import Derived.Test.YtmfgjicfdjjihaaGreatDoorLxb3
import Derived.Deep.QuietTactic
import Derived.BigQuiet
import Derived.Deep.AppendLies
import Derived.Deep.WholeRow
import Derived.BigRegion
import Derived.Deep.RegionHeld3
import Derived.Laws.BytesArg
import Derived.Laws.MakeOwn
import Derived.Test.YtmfgjicfdjjihaaGreatDoorRows
import Derived.WalkKit
import Derived.Laws.BitsAllLaws
import Derived.Laws.BitsLemmas
import Derived.Laws.Bits128
import Derived.Laws.AppendOwn
import Derived.Laws.AppendOwnNone
import Derived.Laws.OwnMore
import Derived.OwnWalk
import Derived.KernelRfl
import Derived.Below
import Derived.Deep.Draws
import Derived.Laws.World
import Derived.Laws.Shifts
import Derived.Laws.ShiftsVarLaws
import Derived.Laws.StructEq
import Derived.Deep.RegionWith
import Derived.Deep.DeepCutAuto
import Derived.RegionTactic
import Derived.Test.YtmfgjicfdjjihaaGreatDoorShelf
import Derived.Sort.OwnSortedInts
import Derived.Sort.Grow
import Derived.Laws.Bits64b
import Derived.Test.YtmfgjicfdjjihaaGreatDoorCards
import Derived.Test.YtmfgjicfdjjihaaGreatDoorTie
import Derived.ProofKit
import Derived.OpenShut
import Derived.ChangeOld
import Derived.Carry
import Derived.SizedLaws
import Derived.Deep.DeepHandedRow
import Derived.SevenTiedAt
import Derived.Lib.SmallJoins
import Derived.Deep.Slices
import Derived.Deep.Strs
import Derived.ChangeSame
import Derived.Stop.LaidErr
import Derived.Lib.LaidTab
namespace Go.Proofs.YtmfgjicfdjjihaaGreatDoor
open Go.RowKit
set_option linter.unusedVariables false
set_option linter.unusedSimpArgs false
/-- Only blocks between two bounds have changed. -/
structure Mid (B0 B1 : Nat) (w w' : World) : Prop where
 os : w'.os = w.os
 tape : w'.tape = w.tape
 output : w'.output = w.output
 size : w'.heap.size = w.heap.size
 block : ∀ k, (k < B0 ∨ B1 ≤ k) → w'.heap[k]? = w.heap[k]?
theorem Mid.refl (B0 B1 : Nat) (w : World) : Mid B0 B1 w w := ⟨rfl, rfl, rfl, rfl, fun _ _ => rfl⟩
theorem Mid.put {B0 B1 : Nat} {a w : World} (h : Mid B0 B1 a w) {g : Nat} {t : TypeId} {cs : Array Value} (hb : Blk w g t cs) (h0 : B0 ≤ g) (h1 : g < B1) (i : Nat) (v : Value) : Mid B0 B1 a (w.setCell ⟨g, i, none⟩ v) := by
 rw [setCell_eq_setRow w g i cs t (0, 0) v hb]
 exact ⟨h.os, h.tape, h.output, by rw [setRow_size]; exact h.size, fun k hk => (setRow_heap_ne w g k _ (by omega)).trans (h.block k hk)⟩
theorem Blk.mid {B0 B1 k : Nat} {t : TypeId} {cs : Array Value} {w w' : World} (h : Blk w k t cs) (m : Mid B0 B1 w w') (hk : k < B0 ∨ B1 ≤ k) : Blk w' k t cs := (m.block k hk).trans h
theorem ownsRow_mid {B0 B1 B : Nat} {w w' : World} {t : TypeId} {k n : Nat} {v : Value} {xs : List Value} (h : w.ownsRow B t k v n xs) (m : Mid B0 B1 w w') (hB : B1 ≤ B) : w'.ownsRow B t k v n xs := by
 obtain ⟨h1, h2⟩ := h
 refine ⟨h1, ?_⟩
 rcases h2 with h2 | ⟨g, cap, cur, h3, h4, h5, h6⟩
 ·exact .inl h2
 ·exact .inr ⟨g, cap, cur, h3, h4, (m.block g (.inr (Nat.le_trans hB h4))).trans h5, h6⟩
theorem SetsO.mid {B0 B1 B : Nat} {w w' : World} {a : Option Addr} {c : Nat} {S : List (List Nat)} {vs : List Value} (h : SetsO w B a c S vs) (m : Mid B0 B1 w w') (hB : B1 ≤ B) : SetsO w' B a c S vs :=
 ⟨ownsRow_mid h.row m hB, fun i s hi => by
  obtain ⟨ai, ci, e1, e2⟩ := h.each i s hi
  exact ⟨ai, ci, e1, ownsRow_mid e2 m hB⟩⟩
theorem TO.own.mid {B0 B1 B : Nat} {w w' : World} {l : List Rl} {o : TO} (h : TO.own w B l o) (m : Mid B0 B1 w w') (hB : B1 ≤ B) : TO.own w' B l o :=
 ⟨⟨ownsRow_mid h.d.row m hB, fun x hx => ⟨ownsRow_mid (h.d.each x hx).sts m hB, ownsRow_mid (h.d.each x hx).cls m hB, (h.d.each x hx).set.mid m hB⟩⟩, ⟨ownsRow_mid h.x.row m hB, fun x hx => ⟨ownsRow_mid (h.x.each x hx).i m hB, (h.x.each x hx).s.mid m hB⟩⟩, ownsRow_mid h.f m hB, h.is⟩
theorem Below.mid {B0 B1 : Nat} {a w w' : World} (h : Below a.heap.size a w) (m : Mid B0 B1 w w') (hB : a.heap.size ≤ B0) : Below a.heap.size a w' :=
 ⟨m.os.trans h.os, m.tape.trans h.tape, m.output.trans h.output, by rw [m.size]; exact h.size, fun k hk => (m.block k (.inl (by omega))).trans (h.block k hk)⟩
/-- A row of numbers between two bounds, whatever it holds. -/
def Wb (w : World) (B0 B1 : Nat) (a : Option Addr) (n c : Nat) : Prop := Wk w B0 3 a n c ∧ ∀ g, a.map (·.block) = some g → g < B1
theorem Wb.of {w : World} {B0 : Nat} {a : Option Addr} {n c : Nat} {xs : List Value} (h : w.ownsRow B0 3 1 (.slice a n c) n xs) : Wb w B0 w.heap.size a n c := ⟨⟨_, h⟩, own_block_lt h⟩
theorem Wb.at_ {w : World} {B0 B1 : Nat} {a : Option Addr} {n c : Nat} (h : Wb w B0 B1 a n c) {i : Nat} (hi : i < n) : ∃ g cur v, a = some ⟨g, 0, none⟩ ∧ B0 ≤ g ∧ g < B1 ∧ Blk w g 3 cur ∧ w.cell? ⟨g, i, none⟩ = some v := by
 obtain ⟨g, cur, v, e1, e2, e3, e4⟩ := h.1.at_ hi
 exact ⟨g, cur, v, e1, e2, h.2 g (by rw [e1]; rfl), e3, e4⟩
/-- Tables that are written over. -/
structure TabV (w : World) (B0 B1 : Nat) (o : TO) : Prop where
 d : w.ownsRow B0 63 3 (.slice o.da o.D.length o.dc) o.D.length (fl ChM.v o.D)
 dk : ∀ x ∈ o.D, Wb w B0 B1 x.ka x.L.length x.kc
 x : w.ownsRow B0 60 3 (.slice o.xa o.X.length o.xc) o.X.length (fl CrM.v o.X)
 xk : ∀ x ∈ o.X, Wb w B0 B1 x.ka x.K.length x.kc
 f : Wb w B0 B1 o.fa o.F.length o.fc
theorem TabV.of {w : World} {B0 : Nat} {l : List Rl} {o : TO} (h : TO.own w B0 l o) (hk : ∀ x ∈ o.D, x.K.length = x.L.length) : TabV w B0 w.heap.size o :=
 ⟨h.d.row, fun x hx => by rw [← hk x hx]; exact Wb.of (h.d.each x hx).cls, h.x.row, fun x hx => Wb.of (h.x.each x hx).i, Wb.of h.f⟩
theorem TabV.tc {T : TypeId → Bool} {w w' : World} {B0 B1 : Nat} {o : TO} (h : TabV w B0 B1 o) (hT : Tc T w w') (h0 : T 63 = false) (h1 : T 60 = false) (h2 : T 3 = false) : TabV w' B0 B1 o :=
 have e : ∀ {a n c}, Wb w B0 B1 a n c → Wb w' B0 B1 a n c := fun {a n c} ⟨⟨xs, hx⟩, hy⟩ => ⟨⟨xs, ownsRow_tc hx hT h2⟩, hy⟩
 ⟨ownsRow_tc h.d hT h0, fun x hx => e (h.dk x hx), ownsRow_tc h.x hT h1, fun x hx => e (h.xk x hx), e h.f⟩
theorem TabV.below {w w' : World} {B0 B1 : Nat} {o : TO} (h : TabV w B0 B1 o) (hb : Below w.heap.size w w') : TabV w' B0 B1 o := h.tc (Tc.of_below (fun _ => false) hb) rfl rfl rfl
theorem TabV.put {w : World} {B0 B1 : Nat} {o : TO} (h : TabV w B0 B1 o) {g : Nat} {cs : Array Value} (hb : Blk w g 3 cs) (i : Nat) (v : Value) : TabV (w.setCell ⟨g, i, none⟩ v) B0 B1 o :=
 have hT : Tc (· == 3) w (w.setCell ⟨g, i, none⟩ v) := Tc.put hb (by rfl) _ _
 have e : ∀ {a n c}, Wb w B0 B1 a n c → Wb (w.setCell ⟨g, i, none⟩ v) B0 B1 a n c := fun {a n c} hh => ⟨hh.1.put hb i v, hh.2⟩
 ⟨ownsRow_tc h.d hT (by rfl), fun x hx => e (h.dk x hx), ownsRow_tc h.x hT (by rfl), fun x hx => e (h.xk x hx), e h.f⟩
/-- What Compile answers, of either kind. -/
theorem comp_any {l : List Rl} {E : Int} {B : Nat} {e : Ending} {w : World} (h : CompGot l E B e w) : ∃ da dn dc xa xn xc fa fn fc, e = .returned (.tuple #[.agg #[.slice da dn dc, .slice xa xn xc, .slice fa fn fc], .int .i64 E]) ∧ (E = 0 → dn = 7 ∧ xn = 6 ∧ ∃ D X F, List.length F = fn ∧ TO.own w B l ⟨da, dc, D, xa, xc, X, fa, fc, F⟩) := by
 rcases h with ⟨h0, rfl⟩ | ⟨h0, da, dc, D, xa, xc, X, fa, fc, F, rfl, hD, hX, hF, hT⟩
 ·exact ⟨none, 0, 0, none, 0, 0, none, 0, 0, rfl, fun h => absurd h h0⟩
 ·exact ⟨da, 7, dc, xa, 6, xc, fa, _, fc, by rw [h0], fun _ => ⟨rfl, rfl, D, X, F, rfl, hD, hX, hF, hT⟩⟩
set_option maxRecDepth 100000 in
set_option maxHeartbeats 32000000 in
theorem lookApart_walk (a : Option Addr) (c : Nat) (l : List Rl) (a' : Option Addr) (c' : Nat) (l' : List Rl) (k : Ky) (w : World) (lc : l.length ≤ c) (cm : c * 136 ≤ 140737488351232 ∧ (a = none → c = 0)) (hrow : RowR w a l) (lc' : l'.length ≤ c') (cm' : c' * 136 ≤ 140737488351232 ∧ (a' = none → c' = 0)) (hrow' : RowR w a' l') (ko : k.ok) (hT : Top w) (hDb : Deb w) (hSd : Sds w) (hL : Lks w) : Calls Tryz.prog 7 #[.slice a l.length c, .slice a' l'.length c', .agg k.v] w fun e w' => e = .returned (.bool true) ∧ Below w.heap.size w w' := by
 have KA : Hid (∀ W, Below w.heap.size w W → Calls Tryz.prog 11 #[] W fun e w' => e = .returned (.bool true) ∧ Below W.heap.size W w') := fun W hb => alive_lk W (hT.below hb) (hDb.below hb) (hSd.below hb) (hL.below hb)
 have KN : Hid (∀ W, Below w.heap.size w W → Calls Tryz.prog 17 #[] W fun e w' => ∃ (g : Nat) (o : TO), e = .returned (.pointer (some ⟨g, 0, none⟩)) ∧ Blk w' g 66 (hv o 0) ∧ TO.own w' W.heap.size [] o ∧ W.heap.size ≤ g ∧ Below W.heap.size W w') := fun W hb => new_lk W (hT.below hb) (hDb.below hb) (hSd.below hb)
 have KC : Hid (∀ W, Below w.heap.size w W → Calls Tryz.prog 18 #[.slice a l.length c, .int .i64 3000] W fun e w' => CompGot l (errT l (errC l 0) 3000) W.heap.size e w' ∧ Below W.heap.size W w') := fun W hb => rcompile_any a c l 3000 W (hrow.low hb)
 have KC' : Hid (∀ W, Below w.heap.size w W → Calls Tryz.prog 18 #[.slice a' l'.length c', .int .i64 3000] W fun e w' => CompGot l' (errT l' (errC l' 0) 3000) W.heap.size e w' ∧ Below W.heap.size W w') := fun W hb => rcompile_any a' c' l' 3000 W (hrow'.low hb)
 have HE : Hid (errT l (errC l 0) 3000 = 0 → l.length ≤ 64 ∧ costN l 6 ≤ 4096 ∧ ∀ r ∈ l, r.ok ∧ r.right = true) := fun h => by
  obtain ⟨g1, g2, _, _, g5⟩ := errT_ok h
  obtain ⟨_, _, _, _, g6⟩ := err_ok g1
  exact ⟨g2, g5, fun r hr => ⟨hrow.each r hr, g6 r hr⟩⟩
 have HE' : Hid (errT l' (errC l' 0) 3000 = 0 → l'.length ≤ 64 ∧ costN l' 6 ≤ 4096) := fun h => by
  obtain ⟨g1, g2, _, _, g5⟩ := errT_ok h
  exact ⟨g2, g5⟩
 have HLK : Hid (Lks w) := hL
 have HKO : Hid k.ok := ko
 have hst : (Tryz.prog.info? 26).map (·.size) = some 3 := by kernel_rfl
 have hsk : (Tryz.prog.info? 33).map (·.size) = some k.v.size := by show _ = some 11; kernel_rfl
 obtain ⟨KV, hKV⟩ : ∃ KV, k.v = KV := ⟨_, rfl⟩
 have HKV : Hid (k.v = KV) := hKV
 rw [hKV] at hsk ⊢
 obtain ⟨N, hN⟩ : ∃ N, l.length = N := ⟨_, rfl⟩
 obtain ⟨N', hN'⟩ : ∃ N, l'.length = N := ⟨_, rfl⟩
 obtain ⟨E, hE⟩ : ∃ E, errT l (errC l 0) 3000 = E := ⟨_, rfl⟩
 obtain ⟨E', hE'⟩ : ∃ E, errT l' (errC l' 0) 3000 = E := ⟨_, rfl⟩
 rw [hN, hE] at KC
 rw [hE] at HE
 rw [hN', hE'] at KC'
 rw [hE'] at HE'
 rw [hN, hN']
 obtain ⟨W0, hW0⟩ : ∃ W0, w.alloc (.cells KV 33) = W0 := ⟨_, rfl⟩
 have b0 := bel_nw hW0
 have HK0 : Hid (Blk W0 w.heap.size 33 KV) := blk_nw hW0
 have KN1 : Hid _ := KN.out W0 b0
 clear hKV hN hN' hE hE' hrow hrow' ko hT hDb hSd hL lc lc' cm cm'
 go_enter Tryz.func7, Tryz.ntmps7
 go_wp2_with fail
 refine Calls.mono KN1.out ?_
 rintro e W1 ⟨g, og, rfl, hbg, _, hgw, q1⟩
 have HBG : Hid (Blk W1 g 66 (hv og 0)) := hbg
 have HGW : Hid (W0.heap.size ≤ g) := hgw
 have b1 := bel_tr b0 q1
 have KN2 : Hid _ := KN.out W1 b1
 clear KN1 hbg hgw KN
 go_wp2_with fail
 refine Calls.mono KN2.out ?_
 rintro e W2 ⟨h, oh, rfl, hbh, _, hhw, q2⟩
 have HBH : Hid (Blk W2 h 66 (hv oh 0)) := hbh
 have HHW : Hid (W1.heap.size ≤ h) := hhw
 have b2 := bel_tr b1 q2
 have KA1 : Hid _ := KA.out W2 b2
 clear KN2 hbh hhw KA
 go_wp2_with fail
 refine Calls.mono KA1.out ?_
 rintro e W3 ⟨rfl, q3⟩
 have b3 := bel_tr b2 q3
 have KC1 : Hid _ := KC.out W3 b3
 clear KA1
 go_wp2_with fail
 refine Calls.mono KC1.out ?_
 rintro e W4 ⟨hgot, q4⟩
 have b4 := bel_tr b3 q4
 obtain ⟨da, dn, dc, xa, xn, xc, fa, fn, fc, rfl, hT4⟩ := comp_any hgot
 have HT4 : Hid (E = 0 → dn = 7 ∧ xn = 6 ∧ ∃ D X F, List.length F = fn ∧ TO.own W4 W3.heap.size l ⟨da, dc, D, xa, xc, X, fa, fc, F⟩) := hT4
 obtain ⟨W5, hW5⟩ : ∃ W5, W4.alloc (.cells #[.slice da dn dc, .slice xa xn xc, .slice fa fn fc] 26) = W5 := ⟨_, rfl⟩
 have q5 := bel_nw hW5
 have b5 := bel_tr b4 q5
 have HB5 : Hid (Blk W5 W4.heap.size 26 #[.slice da dn dc, .slice xa xn xc, .slice fa fn fc]) := blk_nw hW5
 have KC2 : Hid _ := KC'.out W5 b5
 clear KC1 hgot hT4 KC' hW0
 go_wp2_with fail
 refine Calls.mono KC2.out ?_
 rintro e W6 ⟨hgot, q6⟩
 have b6 := bel_tr b5 q6
 obtain ⟨ea, en, ec, ya, yn, yc, ga, gn, gc, rfl, hT6⟩ := comp_any hgot
 have HT6 : Hid (E' = 0 → en = 7 ∧ yn = 6 ∧ ∃ D X F, List.length F = gn ∧ TO.own W6 W5.heap.size l' ⟨ea, ec, D, ya, yc, X, ga, gc, F⟩) := hT6
 obtain ⟨W7, hW7⟩ : ∃ W7, W6.alloc (.cells #[.slice ea en ec, .slice ya yn yc, .slice ga gn gc] 26) = W7 := ⟨_, rfl⟩
 have q7 := bel_nw hW7
 have b7 := bel_tr b6 q7
 have HB7 : Hid (Blk W7 W6.heap.size 26 #[.slice ea en ec, .slice ya yn yc, .slice ga gn gc]) := blk_nw hW7
 have KC3 : Hid _ := KC.out W7 b7
 clear KC2 hgot hT6 KC hW5
 go_wp2_with fail
 refine Calls.mono KC3.out ?_
 rintro e W8 ⟨hgot, q8⟩
 have b8 := bel_tr b7 q8
 obtain ⟨pa, pn, pc, ra, rn, rc, sa, sn, sc, rfl, hT8⟩ := comp_any hgot
 have HT8 : Hid (E = 0 → pn = 7 ∧ rn = 6 ∧ ∃ D X F, List.length F = sn ∧ TO.own W8 W7.heap.size l ⟨pa, pc, D, ra, rc, X, sa, sc, F⟩) := hT8
 obtain ⟨W9, hW9⟩ : ∃ W9, W8.alloc (.cells #[.slice pa pn pc, .slice ra rn rc, .slice sa sn sc] 26) = W9 := ⟨_, rfl⟩
 have q9 := bel_nw hW9
 have b9 := bel_tr b8 q9
 have HB9 : Hid (Blk W9 W8.heap.size 26 #[.slice pa pn pc, .slice ra rn rc, .slice sa sn sc]) := blk_nw hW9
 clear KC3 hgot hT8 hW7
 by_cases hE : E = 0
 rotate_left
 ·have hne : (E != 0) = true := by simpa using hE
  go_wp2
  go_ret
  exact ⟨rfl, b9⟩
 by_cases hE' : E' = 0
 rotate_left
 ·have hne : (E' != 0) = true := by simpa using hE'
  subst hE
  go_wp2
  go_ret
  exact ⟨rfl, b9⟩
 subst hE hE'
 obtain ⟨rfl, rfl, D, X, F, hfn, ho4⟩ := HT4.out rfl
 obtain ⟨rfl, rfl, D', X', F', hgn, ho6⟩ := HT6.out rfl
 obtain ⟨rfl, rfl, D'', X'', F'', hsn, ho8⟩ := HT8.out rfl
 obtain ⟨l64, lcs, lrl⟩ := HE.out rfl
 obtain ⟨m64, mcs⟩ := HE'.out rfl
 have HLL : Hid (l.length ≤ 64 ∧ costN l 6 ≤ 4096 ∧ ∀ r ∈ l, r.ok ∧ r.right = true) := ⟨l64, lcs, lrl⟩
 have HFN : Hid (F.length = fn) := hfn
 have HSMD : Hid (D.length = 7 ∧ X.length = 6) := ⟨ho4.is.d7, ho4.is.x6⟩
 obtain ⟨z1, z2, z3⟩ := tab_small l64 lcs ho4.is
 have HZ : Hid ((∀ x ∈ D, x.L.length ≤ 1000) ∧ (∀ x ∈ X, x.K.length ≤ 10000) ∧ fn ≤ 10000) := ⟨fun x hx => (z1 x hx).1, fun x hx => (z2 x hx).1, by rw [← hfn]; exact z3⟩
 have q59 := bel_tr q6 (bel_tr q7 (bel_tr q8 q9))
 have q49 := bel_tr q5 q59
 have HV9 : Hid (TabV W9 W3.heap.size W4.heap.size ⟨da, dc, D, xa, xc, X, fa, fc, F⟩) := (TabV.of ho4 (fun x hx => (z1 x hx).2.1)).below q49
 have HO9 : Hid (TO.own W9 W3.heap.size l ⟨da, dc, D, xa, xc, X, fa, fc, F⟩) := ho4.below q49
 have HU9 : Hid (TO.own W9 W5.heap.size l' ⟨ea, ec, D', ya, yc, X', ga, gc, F'⟩) := ho6.below (bel_tr q7 (bel_tr q8 q9))
 have HW9 : Hid (TO.own W9 W7.heap.size l ⟨pa, pc, D'', ra, rc, X'', sa, sc, F''⟩) := ho8.below q9
 have q39 := bel_tr q4 q49
 have q29 := bel_tr q3 q39
 have q19 := bel_tr q2 q29
 have HG9 : Hid (Blk W9 g 66 (hv og 0)) := HBG.out.kept q19
 have HH9 : Hid (Blk W9 h 66 (hv oh 0)) := HBH.out.kept q29
 have HT9 : Hid (Blk W9 W4.heap.size 26 #[.slice da 7 dc, .slice xa 6 xc, .slice fa fn fc]) := HB5.out.kept q59
 have HX9 : Hid (Blk W9 W6.heap.size 26 #[.slice ea 7 ec, .slice ya 6 yc, .slice ga gn gc]) := HB7.out.kept (bel_tr q8 q9)
 have HK9 : Hid (Blk W9 w.heap.size 33 KV) := HK0.out.kept (bel_tr q1 q19)
 have HORD : Hid (w.heap.size < W0.heap.size ∧ W0.heap.size ≤ g ∧ g < W1.heap.size ∧ W1.heap.size ≤ h ∧ h < W2.heap.size ∧ W2.heap.size ≤ W3.heap.size ∧ W3.heap.size ≤ W4.heap.size ∧ W4.heap.size < W5.heap.size ∧ W5.heap.size ≤ W6.heap.size ∧ W6.heap.size < W7.heap.size ∧ W7.heap.size ≤ W8.heap.size ∧ W8.heap.size < W9.heap.size) := ⟨HK0.out.lt, HGW.out, HBG.out.lt, HHW.out, HBH.out.lt, q3.size, q4.size, HB5.out.lt, q6.size, HB7.out.lt, q8.size, HB9.out.lt⟩
 have KS1 : Hid (Calls Tryz.prog 19 #[.pointer (some ⟨g, 0, none⟩), .agg #[.slice da 7 dc, .slice xa 6 xc, .slice fa fn fc]] W9 fun e w' => e = .returned (.int .i64 0) ∧ Upd g W9 w' ∧ ∃ o' : TO, Blk w' g 66 (hv o' 1) ∧ TO.own w' W9.heap.size l o') := by
  have := swap_yes g og 0 (by omega) l ⟨da, dc, D, xa, xc, X, fa, fc, F⟩ W3.heap.size W9 HG9.out HO9.out l64 lcs (HLK.out.below b9)
  rw [show (⟨da, dc, D, xa, xc, X, fa, fc, F⟩ : TO).v = #[.slice da 7 dc, .slice xa 6 xc, .slice fa fn fc] from by rw [← hfn]] at this
  exact this
 have at9 := HT9.out.at_
 have hgv : (⟨ea, ec, D', ya, yc, X', ga, gc, F'⟩ : TO).v = #[.slice ea 7 ec, .slice ya 6 yc, .slice ga gn gc] := by rw [← hgn]
 have HGV : Hid ((⟨ea, ec, D', ya, yc, X', ga, gc, F'⟩ : TO).v = #[.slice ea 7 ec, .slice ya 6 yc, .slice ga gn gc]) := hgv
 have hsv : (⟨pa, pc, D'', ra, rc, X'', sa, sc, F''⟩ : TO).v = #[.slice pa 7 pc, .slice ra 6 rc, .slice sa sn sc] := by rw [← hsn]
 have HSV : Hid ((⟨pa, pc, D'', ra, rc, X'', sa, sc, F''⟩ : TO).v = #[.slice pa 7 pc, .slice ra 6 rc, .slice sa sn sc]) := hsv
 have HM64 : Hid (l'.length ≤ 64 ∧ costN l' 6 ≤ 4096) := ⟨m64, mcs⟩
 have HB9' : Hid (Blk W9 W8.heap.size 26 #[.slice pa 7 pc, .slice ra 6 rc, .slice sa sn sc]) := HB9.out
 clear HT4 HT6 HT8 HE HE' ho4 ho6 ho8 l64 lcs lrl m64 mcs hfn hgn hsn z1 z2 z3 hgv hsv q1 q2 q3 q4 q5 q6 q7 q8 q9 q59 q49 q39 q29 q19 HBG HBH HB5 HB7 HB9 HK0 HGW HHW b0 b1 b2 b3 b4 b5 b6 b7 b8
 go_wp2_with (first | (refine wpList_load_at rfl _ _ rfl W4.heap.size 0 (by rfl) _ at9 Tryz.underlying26 hst ?_))
 refine Calls.mono KS1.out ?_
 rintro e WA ⟨rfl, uA, og', hbA, hoA⟩
 have HbA : Hid (Blk WA g 66 (hv og' 1)) := hbA
 have HoA : Hid (TO.own WA W9.heap.size l og') := hoA
 have tA := uA.tc HG9.out
 have bA : Below w.heap.size w WA := Below.upd b9 uA (by have := HORD.out; omega)
 have HXA : Hid (Blk WA W6.heap.size 26 #[.slice ea 7 ec, .slice ya 6 yc, .slice ga gn gc]) := HX9.out.tc tA (by rfl)
 have atA := HXA.out.at_
 have KS2 : Hid (Calls Tryz.prog 19 #[.pointer (some ⟨h, 0, none⟩), .agg #[.slice ea 7 ec, .slice ya 6 yc, .slice ga gn gc]] WA fun e w' => e = .returned (.int .i64 0) ∧ Upd h WA w') := by
  have := swap_yes h oh 0 (by omega) l' ⟨ea, ec, D', ya, yc, X', ga, gc, F'⟩ W5.heap.size WA (HH9.out.upd uA (by have := HORD.out; omega)) (HU9.out.tc tA (by rfl) (by rfl) (by rfl) (by rfl) (by rfl)) HM64.out.1 HM64.out.2 (HLK.out.below bA)
  rw [HGV.out] at this
  exact this.mono (by rintro e w' ⟨h1, h2, _⟩; exact ⟨h1, h2⟩)
 have HUA : Hid (Upd g W9 WA) := uA
 have HHA : Hid (Blk WA h 66 (hv oh 0)) := HH9.out.upd uA (by have := HORD.out; omega)
 clear KS1 at9 hbA hoA uA tA
 go_wp2_with (first | (refine wpList_load_at_w (by rfl) _ _ rfl W6.heap.size 0 (by rfl) _ atA Tryz.underlying26 hst ?_))
 refine Calls.mono KS2.out ?_
 rintro e P ⟨rfl, uB⟩
 have tA := HUA.out.tc HG9.out
 have tB := uB.tc HHA.out
 have HgP : Hid (Blk P g 66 (hv og' 1)) := HbA.out.upd uB (by have := HORD.out; omega)
 have HoP : Hid (TO.own P W9.heap.size l og') := HoA.out.tc tB (by rfl) (by rfl) (by rfl) (by rfl) (by rfl)
 have HwP : Hid (TO.own P W7.heap.size l ⟨pa, pc, D'', ra, rc, X'', sa, sc, F''⟩) := (HW9.out.tc tA (by rfl) (by rfl) (by rfl) (by rfl) (by rfl)).tc tB (by rfl) (by rfl) (by rfl) (by rfl) (by rfl)
 have HnP : Hid (Blk P W8.heap.size 26 #[.slice pa 7 pc, .slice ra 6 rc, .slice sa sn sc]) := (HB9'.out.tc tA (by rfl)).tc tB (by rfl)
 have HtP : Hid (Blk P W4.heap.size 26 #[.slice da 7 dc, .slice xa 6 xc, .slice fa fn fc]) := (HT9.out.tc tA (by rfl)).tc tB (by rfl)
 have HkP : Hid (Blk P w.heap.size 33 KV) := (HK9.out.tc tA (by rfl)).tc tB (by rfl)
 have HVP : Hid (TabV P W3.heap.size W4.heap.size ⟨da, dc, D, xa, xc, X, fa, fc, F⟩) := (HV9.out.tc tA (by rfl) (by rfl) (by rfl)).tc tB (by rfl) (by rfl) (by rfl)
 have bP : Below w.heap.size w P := Below.upd bA uB (by have := HORD.out; omega)
 have HBP : Hid (Below w.heap.size w P) := bP
 have c2 := HtP.out.cell 2 _ rfl
 have hfz := HZ.out.2.2
 clear KS2 atA uB tA tB bA bP b9 HbA HoA HUA HHA HXA HX9 HU9 HW9 HG9 HH9 HT9 HK9 HV9 HO9 HB9' HM64 HGV
 go_wp2_with fail
 clear c2
 go_loopw [70] (fun i wr => ∃ (m : Nat), m ≤ fn ∧ i = .int .i64 m ∧ Hid (TabV wr W3.heap.size W4.heap.size ⟨da, dc, D, xa, xc, X, fa, fc, F⟩) ∧ Hid (Mid W3.heap.size W4.heap.size P wr)) (fun i _ => fn - (intOf i).toNat)
 case atStart => exact ⟨0, Nat.zero_le _, rfl, HVP, Mid.refl _ _ _⟩
 case round =>
  clear HVP
  obtain ⟨m, hm, rfl, HV, HM⟩ := hrel
  by_cases hml : m < fn
  ·have im : (m : Int) < (fn : Int) := by omega
   have m0 : (0 : Int) ≤ (m : Int) := by omega
   have hw2 : IntKind.i64.wrap ((m : Int) + 1) = ((m + 1 : Nat) : Int) := by simp [IntKind.wrap, IntKind.bits, IntKind.signed]; omega
   have c2 := (HtP.out.mid HM.out (.inr (Nat.le_refl _))).cell 2 _ rfl
   obtain ⟨gq, cur, v, efa, hq0, hq1, hbq, hcv⟩ := HV.out.f.at_ (i := m) (by show m < F.length; rw [HFN.out]; exact hml)
   simp only at efa
   have HV' : Hid (TabV (wr.setCell ⟨gq, m, none⟩ (.int .i64 (-1))) W3.heap.size W4.heap.size ⟨da, dc, D, xa, xc, X, fa, fc, F⟩) := HV.out.put hbq m _
   have HM' : Hid (Mid W3.heap.size W4.heap.size P (wr.setCell ⟨gq, m, none⟩ (.int .i64 (-1)))) := HM.out.put hbq hq0 hq1 m _
   have fz := hbq.frozen m
   rw [efa] at c2
   clear efa hq0 hq1 hbq HV HM
   go_wp2
   exact ⟨⟨m + 1, by omega, by first | rfl | (congr 1), HV', HM'⟩, by simp only [intOf]; omega⟩
  ·have im : ¬ (m : Int) < (fn : Int) := by omega
   have c1 := (HtP.out.mid HM.out (.inr (Nat.le_refl _))).cell 1 _ rfl
   clear hml hm
   go_wp2_with fail
   clear c1 im
   go_loopw [81] (fun i wr => ∃ (n : Nat), n ≤ 6 ∧ i = .int .i64 n ∧ Hid (TabV wr W3.heap.size W4.heap.size ⟨da, dc, D, xa, xc, X, fa, fc, F⟩) ∧ Hid (Mid W3.heap.size W4.heap.size P wr)) (fun i _ => 6 - (intOf i).toNat)
   case atStart => exact ⟨0, Nat.zero_le _, rfl, HV, HM⟩
   case round =>
    clear HV HM
    obtain ⟨n, hn, rfl, HV, HM⟩ := hrel
    by_cases hlt : n < 6
    ·have ik : (n : Int) < 6 := by omega
     have n0 : (0 : Int) ≤ (n : Int) := by omega
     have hw1 : IntKind.i64.wrap ((n : Int) + 1) = ((n + 1 : Nat) : Int) := by simp [IntKind.wrap, IntKind.bits, IntKind.signed]; omega
     obtain ⟨x, hx⟩ : ∃ x, X[n]? = some x := ⟨_, List.getElem?_eq_getElem (by rw [HSMD.out.2]; exact hlt)⟩
     have HXN : Hid (X[n]? = some x) := hx
     have HXM : Hid (x ∈ X) := List.mem_of_getElem? hx
     have hk4 := HZ.out.2.1 x HXM.out
     obtain ⟨kn, hkn⟩ : ∃ kn, x.K.length = kn := ⟨_, rfl⟩
     have HKN : Hid (x.K.length = kn) := hkn
     rw [hkn] at hk4
     have HCEL : Hid (∀ W, TabV W W3.heap.size W4.heap.size ⟨da, dc, D, xa, xc, X, fa, fc, F⟩ → ∃ gx, xa = some ⟨gx, 0, none⟩ ∧ W.cell? ⟨gx, n * 3 + 1, none⟩ = some (.slice x.ka kn x.kc)) := fun W hW => by
      obtain ⟨gq, e, hc⟩ := own3_cells (v := CrM.v) (fun _ => rfl) hW.x HXN.out
      have h1 := hc.2 1 (.slice x.ka (x.K.length) x.kc) rfl
      rw [hkn, Nat.zero_add] at h1
      exact ⟨gq, e, h1⟩
     clear hx hkn
     obtain ⟨gx, exa, cc1⟩ := HCEL.out wr HV.out
     have c1 := (HtP.out.mid HM.out (.inr (Nat.le_refl _))).cell 1 _ rfl
     subst exa
     go_wp2_with fail
     clear c1 cc1
     go_loopw [91] (fun i wr => ∃ (m : Nat), m ≤ kn ∧ i = .int .i64 m ∧ Hid (TabV wr W3.heap.size W4.heap.size ⟨da, dc, D, some ⟨gx, 0, none⟩, xc, X, fa, fc, F⟩) ∧ Hid (Mid W3.heap.size W4.heap.size P wr)) (fun i _ => kn - (intOf i).toNat)
     case atStart => exact ⟨0, Nat.zero_le _, rfl, HV, HM⟩
     case round =>
      clear HV HM
      obtain ⟨m, hm, rfl, HV, HM⟩ := hrel
      obtain ⟨gx', exa, cc1⟩ := HCEL.out wr HV.out
      cases exa
      by_cases hml : m < kn
      ·have im : (m : Int) < (kn : Int) := by omega
       have m0 : (0 : Int) ≤ (m : Int) := by omega
       have hw2 : IntKind.i64.wrap ((m : Int) + 1) = ((m + 1 : Nat) : Int) := by simp [IntKind.wrap, IntKind.bits, IntKind.signed]; omega
       have c1 := (HtP.out.mid HM.out (.inr (Nat.le_refl _))).cell 1 _ rfl
       obtain ⟨gq, cur, v, eka, hq0, hq1, hbq, hcv⟩ := (HV.out.xk x HXM.out).at_ (i := m) (by rw [HKN.out]; exact hml)
       have HV' : Hid (TabV (wr.setCell ⟨gq, m, none⟩ (.int .i64 0)) W3.heap.size W4.heap.size ⟨da, dc, D, some ⟨gx, 0, none⟩, xc, X, fa, fc, F⟩) := HV.out.put hbq m _
       have HM' : Hid (Mid W3.heap.size W4.heap.size P (wr.setCell ⟨gq, m, none⟩ (.int .i64 0))) := HM.out.put hbq hq0 hq1 m _
       have fz := hbq.frozen m
       rw [eka] at cc1
       clear eka hq0 hq1 hbq HV HM
       go_wp2
       exact ⟨⟨m + 1, by omega, by first | rfl | (congr 1), HV', HM'⟩, by simp only [intOf]; omega⟩
      ·have im : ¬ (m : Int) < (kn : Int) := by omega
       clear cc1
       go_wp2
       exact ⟨⟨n + 1, by omega, by first | rfl | (congr 1), HV, HM⟩, by simp only [intOf]; omega⟩
    ·have hn7 : n = 6 := by omega
     subst hn7
     rw [show ((6 : Nat) : Int) = 6 from rfl]
     clear hlt
     have c0 := (HtP.out.mid HM.out (.inr (Nat.le_refl _))).cell 0 _ rfl
     go_wp2_with fail
     clear c0
     go_loopw [107] (fun i wr => ∃ (n : Nat), n ≤ 7 ∧ i = .int .i64 n ∧ Hid (TabV wr W3.heap.size W4.heap.size ⟨da, dc, D, xa, xc, X, fa, fc, F⟩) ∧ Hid (Mid W3.heap.size W4.heap.size P wr)) (fun i _ => 7 - (intOf i).toNat)
     case atStart => exact ⟨0, Nat.zero_le _, rfl, HV, HM⟩
     case round =>
      clear HV HM
      obtain ⟨n, hn, rfl, HV, HM⟩ := hrel
      by_cases hlt : n < 7
      ·have ik : (n : Int) < 7 := by omega
       have n0 : (0 : Int) ≤ (n : Int) := by omega
       have hw1 : IntKind.i64.wrap ((n : Int) + 1) = ((n + 1 : Nat) : Int) := by simp [IntKind.wrap, IntKind.bits, IntKind.signed]; omega
       obtain ⟨x, hx⟩ : ∃ x, D[n]? = some x := ⟨_, List.getElem?_eq_getElem (by rw [HSMD.out.1]; exact hlt)⟩
       have HXN : Hid (D[n]? = some x) := hx
       have HXM : Hid (x ∈ D) := List.mem_of_getElem? hx
       have hk4 := HZ.out.1 x HXM.out
       obtain ⟨kn, hkn⟩ : ∃ kn, x.L.length = kn := ⟨_, rfl⟩
       have HKN : Hid (x.L.length = kn) := hkn
       rw [hkn] at hk4
       have HCEL : Hid (∀ W, TabV W W3.heap.size W4.heap.size ⟨da, dc, D, xa, xc, X, fa, fc, F⟩ → ∃ gx, da = some ⟨gx, 0, none⟩ ∧ W.cell? ⟨gx, n * 3 + 1, none⟩ = some (.slice x.ka kn x.kc)) := fun W hW => by
        obtain ⟨gq, e, hc⟩ := own3_cells (v := ChM.v) (fun _ => rfl) hW.d HXN.out
        have h1 := hc.2 1 (.slice x.ka (x.L.length) x.kc) rfl
        rw [hkn, Nat.zero_add] at h1
        exact ⟨gq, e, h1⟩
       clear hx hkn
       obtain ⟨gx, exa, cc1⟩ := HCEL.out wr HV.out
       have c1 := (HtP.out.mid HM.out (.inr (Nat.le_refl _))).cell 0 _ rfl
       subst exa
       go_wp2_with fail
       clear c1 cc1
       go_loopw [117] (fun i wr => ∃ (m : Nat), m ≤ kn ∧ i = .int .i64 m ∧ Hid (TabV wr W3.heap.size W4.heap.size ⟨some ⟨gx, 0, none⟩, dc, D, xa, xc, X, fa, fc, F⟩) ∧ Hid (Mid W3.heap.size W4.heap.size P wr)) (fun i _ => kn - (intOf i).toNat)
       case atStart => exact ⟨0, Nat.zero_le _, rfl, HV, HM⟩
       case round =>
        clear HV HM
        obtain ⟨m, hm, rfl, HV, HM⟩ := hrel
        obtain ⟨gx', exa, cc1⟩ := HCEL.out wr HV.out
        cases exa
        by_cases hml : m < kn
        ·have im : (m : Int) < (kn : Int) := by omega
         have m0 : (0 : Int) ≤ (m : Int) := by omega
         have hw2 : IntKind.i64.wrap ((m : Int) + 1) = ((m + 1 : Nat) : Int) := by simp [IntKind.wrap, IntKind.bits, IntKind.signed]; omega
         have c1 := (HtP.out.mid HM.out (.inr (Nat.le_refl _))).cell 0 _ rfl
         obtain ⟨gq, cur, v, eka, hq0, hq1, hbq, hcv⟩ := (HV.out.dk x HXM.out).at_ (i := m) (by rw [HKN.out]; exact hml)
         have HV' : Hid (TabV (wr.setCell ⟨gq, m, none⟩ (.int .i64 0)) W3.heap.size W4.heap.size ⟨some ⟨gx, 0, none⟩, dc, D, xa, xc, X, fa, fc, F⟩) := HV.out.put hbq m _
         have HM' : Hid (Mid W3.heap.size W4.heap.size P (wr.setCell ⟨gq, m, none⟩ (.int .i64 0))) := HM.out.put hbq hq0 hq1 m _
         have fz := hbq.frozen m
         rw [eka] at cc1
         clear eka hq0 hq1 hbq HV HM
         go_wp2
         exact ⟨⟨m + 1, by omega, by first | rfl | (congr 1), HV', HM'⟩, by simp only [intOf]; omega⟩
        ·have im : ¬ (m : Int) < (kn : Int) := by omega
         clear cc1
         go_wp2
         exact ⟨⟨n + 1, by omega, by first | rfl | (congr 1), HV, HM⟩, by simp only [intOf]; omega⟩
      ·have hn7 : n = 7 := by omega
       subst hn7
       rw [show ((7 : Nat) : Int) = 7 from rfl]
       clear hlt
       have HFg := (HgP.out.mid HM.out (.inl (by have := HORD.out; omega)))
       have HFo := (HoP.out.mid HM.out (by have := HORD.out; omega))
       have HFw := (HwP.out.mid HM.out (by have := HORD.out; omega))
       have HFn : Hid (Blk wr W8.heap.size 26 #[.slice pa 7 pc, .slice ra 6 rc, .slice sa sn sc]) := HnP.out.mid HM.out (.inr (by have := HORD.out; omega))
       have HFk : Hid (Blk wr w.heap.size 33 KV) := HkP.out.mid HM.out (.inl (by have := HORD.out; omega))
       have bw : Below w.heap.size w wr := Below.mid HBP.out HM.out (by have := HORD.out; omega)
       obtain ⟨FV, hFV⟩ : ∃ FV : Int × Int, (if k.right = true then (firstN (ofB l (·.takes k)), (0 : Int)) else (0, 1)) = FV := ⟨_, rfl⟩
       have KF1 : Hid (Calls Tryz.prog 20 #[.pointer (some ⟨g, 0, none⟩), .agg KV] wr fun e w' => e = .returned (.tuple #[.int .i64 FV.1, .int .i64 FV.2]) ∧ Below wr.heap.size wr w') := by
        have := hfind_lk g og' 1 k l W9.heap.size wr HFg HFo HLL.out.1 HLL.out.2.1 (HLK.out.below bw) HKO.out
        rw [findA_of HFo HLL.out.1 HLL.out.2.2 HKO.out, hFV, HKV.out] at this
        exact this
       have KF2 : Hid (∀ W, Below wr.heap.size wr W → Calls Tryz.prog 13 #[.agg #[.slice pa 7 pc, .slice ra 6 rc, .slice sa sn sc], .agg KV] W fun e w' => e = .returned (.tuple #[.int .i64 FV.1, .int .i64 FV.2]) ∧ Below W.heap.size W w') := fun W hb => by
        have := rlookup_lk (TO.tr ⟨pa, pc, D'', ra, rc, X'', sa, sc, F''⟩) k W ((HFw.below hb).ok HLL.out.1 HLL.out.2.1) HKO.out
        rw [findA_of HFw HLL.out.1 HLL.out.2.2 HKO.out, hFV, HFw.val, HSV.out, HKV.out] at this
        exact this
       have atk := HFk.out.at_
       clear hFV HFg HFo HFw
       go_wp2_with (first | (refine wpList_load_at rfl _ _ rfl w.heap.size 0 (by rfl) _ atk Tryz.underlying33 hsk ?_))
       refine Calls.mono KF1.out ?_
       rintro e Y1 ⟨rfl, y1⟩
       have by1 := bel_tr bw y1
       have atk1 := (HFk.out.kept y1).at_
       have atn1 := (HFn.out.kept y1).at_
       have KF2' : Hid _ := KF2.out Y1 y1
       clear KF1 KF2 atk
       go_wp2_with (first
        | (refine wpList_load_at rfl _ _ rfl w.heap.size 0 (by rfl) _ atk1 Tryz.underlying33 hsk ?_)
        | (refine wpList_load_at rfl _ _ rfl W8.heap.size 0 (by rfl) _ atn1 Tryz.underlying26 hst ?_))
       refine Calls.mono KF2'.out ?_
       rintro e Y2 ⟨rfl, y2⟩
       have by2 := bel_tr by1 y2
       go_wp2
       go_ret
       exact ⟨rfl, by2⟩
end Go.Proofs.YtmfgjicfdjjihaaGreatDoor
namespace Go.Proofs.YtmfgjicfdjjihaaGreatDoor.lookApart
open Go.ChangeShapes Go.WideShapes Go.ChangeAt Go.RowKit
set_option linter.unusedVariables false
set_option linter.unusedSimpArgs false
theorem own : ownKnob Tryz.prog.godebug = none := by kernel_rfl
theorem laidOut : laidOutB Tryz.prog = true := by kernel_rfl
set_option maxRecDepth 100000 in
theorem contract (H : Type) (enc : TypeId × Value → H) (W : World) (base : Nat) (args : Array Value) (ds gs : List (DataW H)) (before : List MemPlace)
  (hval : ∀ (j : Nat) t v, Tryz.f7.params[j]? = some t → args[j]? = some v → Value.okWide Tryz.prog W .any base t v)
  (hW : DataW.Whole enc Tryz.prog Tryz.f7.params.toList Rows.lookApartSpec.vars false W args.toList ds gs before)
  (hsz : (DataW.weightsEach Tryz.prog (Tryz.f7.params.toList ++ Rows.lookApartSpec.plain.varTypes Tryz.prog) (ds ++ gs)).all (· ≤ reachBytes) = true)
  (hL : laidMetH Tryz.prog Rows.lookApartRow.laid W) (hsh : W.ShapedOpen Tryz.prog) :
  Calls Tryz.prog 7 args W fun e W' => ∃ v, e = .returned v ∧ Rows.lookApartSpec.post enc Tryz.prog Tryz.f7 false true false false W args v W' := by
 have hW' := hW
 obtain ⟨p, q, hA0, hV, rfl, hfz, hnd⟩ := hW
 have hA : DataW.TrodAll enc Tryz.prog W 0 (fun _ => true) true Tryz.f7.params.toList args.toList ds p := hA0
 rw [Tryz.params7] at hA hval hsz
 obtain ⟨v0, vs0, d0, ds0, p0, q0, hargs, rfl, rfl, h0, r0⟩ := trodAll_cons hA
 obtain ⟨v1, vs1, d1, ds1, p1, q1, rfl, rfl, rfl, h1, r1⟩ := trodAll_cons r0
 obtain ⟨v2, vs2, d2, ds2, p2, q2, rfl, rfl, rfl, h2, r2⟩ := trodAll_cons r1
 obtain ⟨rfl, rfl, rfl⟩ := trodAll_nil r2
 obtain rfl : args = #[v0, v1, v2] := by cases args; simp_all
 obtain ⟨rfl, rfl⟩ := trodVars_none hV
 have lt0 : ∀ x ∈ p0, x.block < W.heap.size := by obtain ⟨m, hm⟩ := h0; exact DataW.trod_lt m _ _ _ hm
 have s0 : ∀ n ∈ d0.weights Tryz.prog 40, n ≤ reachBytes := fun n hn => by simpa using List.all_eq_true.1 hsz n (DataW.weights_mem_each (j := 0) (t := 40) rfl rfl n hn)
 obtain ⟨a0, c0, l0, rfl, lc0, cm0, w0⟩ := open_rules (hval 0 40 v0 rfl rfl) h0 s0
 have lt1 : ∀ x ∈ p1, x.block < W.heap.size := by obtain ⟨m, hm⟩ := h1; exact DataW.trod_lt m _ _ _ hm
 have s1 : ∀ n ∈ d1.weights Tryz.prog 40, n ≤ reachBytes := fun n hn => by simpa using List.all_eq_true.1 hsz n (DataW.weights_mem_each (j := 1) (t := 40) rfl rfl n hn)
 obtain ⟨a1, c1, l1, rfl, lc1, cm1, w1⟩ := open_rules (hval 1 40 v1 rfl rfl) h1 s1
 have lt2 : ∀ x ∈ p2, x.block < W.heap.size := by obtain ⟨m, hm⟩ := h2; exact DataW.trod_lt m _ _ _ hm
 obtain ⟨k2, rfl, ok2⟩ := open_key (hval 2 33 v2 rfl rfl) h2
 obtain ⟨hT, hDb, hSd, hLk⟩ := four_of (show laidMet Tryz.prog Rows.lookApartRow.laid W from hL)
 clear hA0 hval
 refine (lookApart_walk a0 c0 l0 a1 c1 l1 k2 W lc0 cm0 w0 lc1 cm1 w1 ok2 hT hDb hSd hLk).mono fun e W' ⟨he, bel⟩ => ?_
 subst he
 exact ⟨_, rfl, _, _, _, [], _, [], hW', trodAll_mk1 (shut_bool Tryz.underlying4 _), (trodAll_cons_mk (Below.trod laidOut (by kernel_rfl) (of_decide_eq_true (by kernel_rfl)) h0 bel lt0) (trodAll_cons_mk (Below.trod laidOut (by kernel_rfl) (of_decide_eq_true (by kernel_rfl)) h1 bel lt1) (trodAll_cons_mk (Below.trod laidOut (by kernel_rfl) (of_decide_eq_true (by kernel_rfl)) h2 bel lt2) trodAll_mk0))), rfl, bel.frame _, fun h => by cases h⟩
theorem laid_met (os : Os) : laidMet Tryz.prog Rows.lookApartRow.laid (({ World.holding Tryz.prog os ⟨#[], #[], []⟩ with heap := ((((World.holding Tryz.prog os ⟨#[], #[], []⟩).heap.modify 2 (layOne (layA Rows.laid_stockade_chunk_greatest))).modify 3 (layOne (layA Rows.laid_math_bits_deBruijn64tab))).modify 1 (layOne (layB Rows.laid_stockade_rfc_sides))).modify 0 (layOne (layB Rows.laid_stockade_look_sides)) } : World).forCall (fun _ _ => 0) ⟨#[], #[.slice none 0 0, .slice none 0 0, .agg #[.int .i64 0, .int .i64 0, .int .i64 0, .int .u64 0, .int .u64 0, .int .i64 0, .int .u64 0, .int .u64 0, .int .i64 0, .int .i64 0, .int .i64 0]], []⟩).memory :=
 laidMet_of_run' 8 (by kernel_rfl) (by kernel_rfl)
theorem reads (os : Os) {H : Type} (enc : TypeId × Value → H) : ∃ places, DataW.whole enc Tryz.prog (({ World.holding Tryz.prog os ⟨#[], #[], []⟩ with heap := ((((World.holding Tryz.prog os ⟨#[], #[], []⟩).heap.modify 2 (layOne (layA Rows.laid_stockade_chunk_greatest))).modify 3 (layOne (layA Rows.laid_math_bits_deBruijn64tab))).modify 1 (layOne (layB Rows.laid_stockade_rfc_sides))).modify 0 (layOne (layB Rows.laid_stockade_look_sides)) } : World).forCall (fun _ _ => 0) ⟨#[], #[.slice none 0 0, .slice none 0 0, .agg #[.int .i64 0, .int .i64 0, .int .i64 0, .int .u64 0, .int .u64 0, .int .i64 0, .int .u64 0, .int .u64 0, .int .i64 0, .int .i64 0, .int .i64 0]], []⟩).memory Tryz.f7.params.toList Rows.lookApartSpec.vars false (#[.slice none 0 0, .slice none 0 0, .agg #[.int .i64 0, .int .i64 0, .int .i64 0, .int .u64 0, .int .u64 0, .int .i64 0, .int .u64 0, .int .u64 0, .int .i64 0, .int .i64 0, .int .i64 0]] : Array Value).toList 8 = some ([.nil, .nil, .agg [.lit (.int .i64 0), .lit (.int .i64 0), .agg [.lit (.int .i64 0), .lit (.int .u64 0), .lit (.int .u64 0)], .agg [.lit (.int .i64 0), .lit (.int .u64 0), .lit (.int .u64 0)], .lit (.int .i64 0), .lit (.int .i64 0), .lit (.int .i64 0)]], [], places) :=
 ⟨[], by kernel_rfl⟩
set_option maxRecDepth 100000 in
theorem lifted (os : Os) (started : os.Started) (H : Type) (enc : TypeId × Value → H) (F : Stop.Interp) :
  ReturnsInHanded {} Tryz.checked os 7 .any ((OpenSpec.ofChange Rows.lookApartSpec).preRow enc Tryz.prog Tryz.f7 Rows.lookApartRow.domain false Rows.lookApartRow.laid) (((OpenSpec.ofChange Rows.lookApartSpec).at F).post enc Tryz.prog Tryz.f7 false true false false) := by
 obtain ⟨places, hx⟩ := reads os enc
 refine returnsInHanded_of_row (C := Tryz.checked) (s := (OpenSpec.ofChange Rows.lookApartSpec)) own started (by kernel_rfl) Tryz.func7
  (witness_row_at (enc := enc) (C := Tryz.checked) false ({ World.holding Tryz.prog os ⟨#[], #[], []⟩ with heap := ((((World.holding Tryz.prog os ⟨#[], #[], []⟩).heap.modify 2 (layOne (layA Rows.laid_stockade_chunk_greatest))).modify 3 (layOne (layA Rows.laid_math_bits_deBruijn64tab))).modify 1 (layOne (layB Rows.laid_stockade_rfc_sides))).modify 0 (layOne (layB Rows.laid_stockade_look_sides)) } : World) #[.slice none 0 0, .slice none 0 0, .agg #[.int .i64 0, .int .i64 0, .int .i64 0, .int .u64 0, .int .u64 0, .int .i64 0, .int .u64 0, .int .u64 0, .int .i64 0, .int .i64 0, .int .i64 0]] rfl (by kernel_rfl) (by kernel_rfl) (by kernel_rfl)
   (OpenSpec.preRow_of_cond 8 hx (by kernel_rfl) (fun k hk => by cases hk) (by kernel_rfl) (laid_met os))) ?_
 intro W base args ds gs before hval hW _ _ hsz hL hsh _
 exact contract H enc W base args ds gs before hval hW hsz hL hsh
theorem said : Rows.LookApartSaid :=
 OpenClaim.holds_of_cond 7 Tryz.f7 rfl rfl rfl rfl rfl rfl rfl ⟨rfl, rfl, rfl, rfl, rfl⟩ rfl rfl rfl rfl rfl (by kernel_rfl) Tryz.func7 (by kernel_rfl)
  (of_decide_eq_true (by kernel_rfl)) (by unfold Func.isWrapper; first | (rw [if_pos (by decide +kernel)]; kernel_rfl) | (rw [if_neg (by decide +kernel)]; exact ⟨rfl, rfl⟩))
  (fun os started H enc _ F => by rw [OpenClaim.pre_eq_preRow]; exact lifted os started H enc F)
theorem plain (f : FuncId) (fn : Func) (hf : Tryz.pinned.checked.prog.funcNamed "stockade/stockadelaw13.LookApart" = some f) (hfn : Tryz.pinned.checked.prog.funcs[f]? = some fn) :
  false = Tryz.pinned.checked.prog.looks [] ∧ ∀ (j : Nat) t, fn.params[j]? = some t → Tryz.pinned.checked.prog.wantsStandIn t = false := by
 obtain rfl : f = 7 := Option.some.inj ((show Tryz.prog.funcNamed "stockade/stockadelaw13.LookApart" = some 7 by kernel_rfl).symm.trans hf) |>.symm
 obtain rfl : fn = Tryz.f7 := (Option.some.inj (Tryz.func7.symm.trans hfn)).symm
 refine ⟨by kernel_rfl, fun j t ht => ?_⟩
 rw [Tryz.params7] at ht
 have hm : t ∈ [40, 40, 33] := by simpa using Array.mem_of_getElem? ht
 have hall : ([40, 40, 33].all fun u => !Tryz.prog.wantsStandIn u) = true := by kernel_rfl
 exact (show Tryz.prog.wantsStandIn t = false by simpa using List.all_eq_true.1 hall t hm)
end Go.Proofs.YtmfgjicfdjjihaaGreatDoor.lookApart
namespace Go.Proofs.YtmfgjicfdjjihaaGreatDoor
theorem lookApart_holds : Rows.LookApartCardSaid :=
 Claim7.holds_tied_plain_at .later [] _ _ _ _ lookApart.said (fun _ h => by cases h) (by kernel_rfl) (fun _ h => by cases h) lookApart_row_tie rfl ⟨rfl, rfl⟩ (by kernel_rfl) rfl lookApart.plain (by kernel_rfl)
end Go.Proofs.YtmfgjicfdjjihaaGreatDoor
