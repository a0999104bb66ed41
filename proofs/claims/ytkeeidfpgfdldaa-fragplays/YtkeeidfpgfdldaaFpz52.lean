/- Texts joined: FragPlaysWalk -/
import Derived.Test.YtkeeidfpgfdldaaFpz51
namespace Go.Proofs.Ytkeeidfpgfdldaa
abbrev fpz52o0 : Oper := { dst := some 103, op := Op.call { callee := Callee.value (.func 23), args := #[.tmp 102], argTypes := #[25] }, type := 3, pos := "law.go:59", after := #[{ on := 13, ground := Ground.data }, { on := 12, ground := Ground.chain }, { on := 12, ground := Ground.guard }], guard := some (12, false) }
abbrev fpz52o1 : Oper := { dst := some 97, op := Op.call { callee := Callee.value (.func 21), args := #[.tmp 96], argTypes := #[25] }, type := 3, pos := "law.go:59", after := #[{ on := 7, ground := Ground.data }, { on := 6, ground := Ground.chain }, { on := 6, ground := Ground.guard }], guard := some (6, false) }
abbrev fpz52o2 : Oper := { dst := some 98, op := Op.call { callee := Callee.value (.func 22), args := #[.tmp 7], argTypes := #[31] }, type := 3, pos := "law.go:59", after := #[{ on := 8, ground := Ground.chain }, { on := 6, ground := Ground.guard }], guard := some (6, false) }
abbrev fpz52o3 : Oper := { dst := some 106, op := Op.binOp BinOp.neq 3 (.tmp 103) (.tmp 105) 3, type := 4, pos := "law.go:59", after := #[{ on := 14, ground := Ground.data }, { on := 16, ground := Ground.data }, { on := 12, ground := Ground.guard }], guard := some (12, false) }
abbrev fpz52o4 : Oper := { dst := some 99, op := Op.binOp BinOp.neq 3 (.tmp 97) (.tmp 98) 3, type := 4, pos := "law.go:59", after := #[{ on := 8, ground := Ground.data }, { on := 9, ground := Ground.data }, { on := 6, ground := Ground.guard }], guard := some (6, false) }
abbrev fpz52o5 : Oper := { dst := some 90, op := Op.call { callee := Callee.value (.func 20), args := #[.tmp 89], argTypes := #[25] }, type := 3, pos := "law.go:59", after := #[{ on := 0, ground := Ground.data }], guard := none }
abbrev fpz52o6 : Oper := { dst := some 93, op := Op.call { callee := Callee.builtin Builtin.len, args := #[.tmp 92], argTypes := #[29] }, type := 3, pos := "law.go:59", after := #[{ on := 3, ground := Ground.data }], guard := none }
abbrev fpz52o7 : Oper := { dst := some 94, op := Op.binOp BinOp.neq 3 (.tmp 90) (.tmp 93) 3, type := 4, pos := "law.go:59", after := #[{ on := 1, ground := Ground.data }, { on := 4, ground := Ground.data }], guard := none }
abbrev fpz52o8 : Oper := { dst := some 107, op := Op.pick (.tmp 101) (.const (.bool true)) (.tmp 106), type := 4, pos := "law.go:59", after := #[{ on := 12, ground := Ground.data }, { on := 17, ground := Ground.data }], guard := none }
abbrev fpz52o9 : Oper := { dst := some 100, op := Op.pick (.tmp 95) (.const (.bool true)) (.tmp 99), type := 4, pos := "law.go:59", after := #[{ on := 6, ground := Ground.data }, { on := 10, ground := Ground.data }], guard := none }
abbrev fpz52o10 : Oper := { dst := some 105, op := Op.load 3 (.tmp 104), type := 3, pos := "law.go:59", after := #[{ on := 15, ground := Ground.data }, { on := 12, ground := Ground.guard }], guard := some (12, false) }
abbrev fpz52o11 : Oper := { dst := some 92, op := Op.load 29 (.tmp 91), type := 29, pos := "law.go:59", after := #[{ on := 2, ground := Ground.data }], guard := none }
abbrev fpz52o12 : Oper := { dst := some 101, op := Op.move (.tmp 100), type := 4, pos := "law.go:59", after := #[{ on := 11, ground := Ground.data }, { on := 9, ground := Ground.chain }], guard := none }
abbrev fpz52o13 : Oper := { dst := some 104, op := Op.fieldAddr 31 (.tmp 7) 3, type := 0, pos := "law.go:59", after := #[{ on := 12, ground := Ground.guard }], guard := some (12, false) }
abbrev fpz52o14 : Oper := { dst := some 95, op := Op.move (.tmp 94), type := 4, pos := "law.go:59", after := #[{ on := 5, ground := Ground.data }, { on := 1, ground := Ground.chain }], guard := none }
abbrev fpz52o15 : Oper := { dst := some 102, op := Op.move (.tmp 5), type := 25, pos := "law.go:59", after := #[{ on := 12, ground := Ground.guard }], guard := some (12, false) }
abbrev fpz52o16 : Oper := { dst := some 96, op := Op.move (.tmp 5), type := 25, pos := "law.go:59", after := #[{ on := 6, ground := Ground.guard }], guard := some (6, false) }
abbrev fpz52o19 : Oper := { dst := some 91, op := Op.fieldAddr 31 (.tmp 7) 4, type := 0, pos := "law.go:59", after := #[], guard := none }
abbrev fpz52o20 : Oper := { dst := some 89, op := Op.move (.tmp 5), type := 25, pos := "law.go:59", after := #[], guard := none }
end Go.Proofs.Ytkeeidfpgfdldaa
namespace Go.Proofs.Ytkeeidfpgfdldaa
open Go.RowKit
set_option linter.unusedVariables false
set_option linter.unusedSimpArgs false
theorem TabP.now {B : Nat} {P : Nat → Prop} {w0 wr : World} {tb mb : Nat} {s : Fs} (h : TabP B P w0 wr tb mb s) : Calls Try.prog 23 #[.pointer (some ⟨tb, 0, none⟩)] wr fun e w' => e = .returned (.int .i64 s.now) ∧ w' = wr := by
 obtain ⟨G, T, hf⟩ := h.ex
 exact tnow_any tb mb s G wr T
theorem Both.drop {B : Nat} {E : Nat → Prop} {w0 wr : World} {tb mb rb : Nat} {s : Fs} {ms ro li cl : Int} {ga : Option Addr} {gc : Nat} {L : List DgIn} (h : Both B E w0 wr tb mb rb s ms ro li cl ga gc L) : Both B (fun _ => False) w0 wr tb mb rb s ms ro li cl ga gc L := by
 obtain ⟨G, T, hf, hp⟩ := h.p.ex
 exact ⟨⟨⟨G, T, hf, fun k hk => hp k (hk.elim .inl False.elim)⟩, fun k hk => h.p.lt k (hk.elim .inl False.elim), h.p.bel, h.p.le⟩, h.d, h.rel, h.low⟩
theorem Both.apart {B : Nat} {w0 wr w' : World} {tb mb rb ab : Nat} {s : Fs} {ms ro li cl : Int} {ga : Option Addr} {gc : Nat} {L : List DgIn} (h : Both B (fun _ => False) w0 wr tb mb rb s ms ro li cl ga gc L) (b : Below wr.heap.size wr w') (h1 : wr.heap.size ≤ ab) (h2 : ab < w'.heap.size) : Both B (fun k => k = ab) w0 w' tb mb rb s ms ro li cl ga gc L :=
 ⟨h.p.add b (fun k hk => by rcases hk with hk | rfl; exact .inl (.inl hk); exact .inr ⟨h1, h2⟩), (h.below b).d, h.rel, h.low⟩
theorem both_new {B : Nat} {w0 wr w' : World} {tb mb rb : Nat} {gr by_ lf : Int} (h : TabB B w0 wr tb mb (fs0 gr by_ lf)) (b : Below wr.heap.size wr w') (h1 : wr.heap.size ≤ rb) (hb : Blk w' rb 31 (tabV gr by_ lf 0 none 0 0)) : Both B (fun _ => False) w0 w' tb mb rb (fs0 gr by_ lf) gr by_ lf 0 none 0 [] := by
 have hd : ∀ k, DocB rb none [] k → k = rb := by
  rintro k (e | ⟨x, hx, _⟩ | ⟨g, hg, _⟩)
  ·exact e
  ·cases hx
  ·cases hg
 refine ⟨h.toP.add b (fun k hk => ?_), ⟨⟨hb, ⟨fun q hq => (by cases hq), fun i q hq => (by simp at hq)⟩, fun x hx => (by cases hx), fun g hg => (by cases hg), by simp⟩, fun x hx => (by cases hx), fun g hg => (by cases hg), fun g hg => (by cases hg)⟩, rel_new, fun k hk => ?_⟩
 ·rcases hk with hk | hk
  ·rw [hd k hk]
   exact .inr ⟨h1, hb.lt⟩
  ·exact hk.elim
 ·rw [hd k hk]
  exact Nat.le_trans h.le h1
set_option maxRecDepth 100000 in
set_option maxHeartbeats 4000000 in
theorem fragPlays_walk (gr by_ lf : Int) (a : Option Addr) (c : Nat) (l : List Ac6) (w : World) (hlc : l.length ≤ c) (hcm : c ≤ 17592186044416) (hrow : RowN 17 Ac6.v Ac6.ok w a l) :
  Calls Try.prog 3 #[.agg #[.int .i64 gr, .int .i64 by_, .int .i64 lf], .slice a l.length c] w fun e w' => e = .returned (.bool true) ∧ Below w.heap.size w w' := by
 obtain ⟨W1, hW1⟩ : ∃ W, w.alloc (.cells #[.int .i64 gr, .int .i64 by_, .int .i64 lf] 23) = W := ⟨_, rfl⟩
 have b1 := bel_nw hW1
 have C1 := blk_nw hW1
 have d0 := C1.cell 0 (.int .i64 gr) rfl
 have d1 := C1.cell 1 (.int .i64 by_) rfl
 have d2 := C1.cell 2 (.int .i64 lf) rfl
 have HR : Hid (RowN 17 Ac6.v Ac6.ok w a l) := hrow
 clear hrow
 by_cases hc : capsOk gr by_ lf
 ·have KN : Hid _ := tabB_new gr by_ lf W1 hc
  have hb : ¬ badNew gr by_ lf := by unfold badNew; unfold capsOk at hc; omega
  have KR : Hid (∀ W, Calls Try.prog 13 #[.int .i64 gr, .int .i64 by_, .int .i64 lf] W _) := fun W => rnew_yes gr by_ lf W hb
  have KA : Hid (∀ W, Calls Try.prog 14 #[] W _) := fun W => falive_any W
  clear hc hb
  go_enter Try.func3, Try.ntmps3
  go_wp2_with fail
  refine Calls.mono KN.out ?_
  rintro e W2 ⟨tb, mb, rfl, T2⟩
  have C2 := C1.below T2.bel C1.lt
  have d0 := C2.cell 0 (.int .i64 gr) rfl
  have d1 := C2.cell 1 (.int .i64 by_) rfl
  have d2 := C2.cell 2 (.int .i64 lf) rfl
  clear KN
  go_wp2_with fail
  refine Calls.mono (KR.out _) ?_
  rintro e W3 ⟨rfl, b3⟩
  have T3 := T2.below b3
  clear KR T2 C2 d0 d1 d2
  have BN : Hid _ := both_new T3 (bel_nw (rfl : W3.alloc (.cells (tabV gr by_ lf 0 none 0 0) 31) = _)) (Nat.le_refl _) (blk_new _ _ _)
  clear T3
  go_wp2_with fail
  refine Calls.mono (KA.out _) ?_
  rintro e W5 ⟨rfl, b5⟩
  have BN5 := BN.out.below b5
  have HB5 : Hid _ := BN5
  obtain ⟨rb, hrb⟩ : ∃ rb, W3.heap.size = rb := ⟨_, rfl⟩
  rw [hrb] at HB5
  clear KA BN BN5 b5 b3
  go_wp2_with fail
  try simp only [hrb]
  clear hrb
  go_loopw [53] (fun i wr => ∃ j : Nat, j ≤ l.length ∧ i = .int .i64 j ∧ ∃ s cl ga gc L, Hid (Both W1.heap.size (fun _ => False) W1 wr tb mb rb s gr by_ lf cl ga gc L)) (fun i _ => l.length - (intOf i).toNat)
  case atStart => exact ⟨0, by omega, rfl, _, _, _, _, _, HB5.out⟩
  case round =>
   obtain ⟨j, hj, rfl, s, cl, ga, gc, L, hB⟩ := hrel
   clear HB5
   by_cases hlt : j < l.length
   ·have i1 : (↑j : Int) < ↑l.length := by omega
    have i0 : (0 : Int) ≤ ↑j := by omega
    obtain ⟨q, hq⟩ : ∃ q, l[j]? = some q := ⟨_, List.getElem?_eq_getElem hlt⟩
    have bw : Hid (Below w.heap.size w wr) := b1.trans (hB.out.p.bel.mono b1.size)
    obtain ⟨ab, ao, rfl, hcells⟩ := HR.out.cells j q hq
    have hqok := (HR.out.each q (List.mem_of_getElem? hq)).below bw.out
    have hcw := hcells.below bw.out
    have cl_ := hcells.1
    clear hcells
    obtain ⟨Wa, hWa⟩ : ∃ W, wr.alloc (.cells #[.bool false, .int .i64 0, .int .i64 0, .int .i64 0, .int .u64 0, .int .u64 0, .int .i64 0, .int .u64 0, .int .u64 0, .int .i64 0, .int .i64 0, .bool false, .int .u32 0, .int .i64 0, .bool false, .slice none 0 0, .slice none 0 0] 44) = W := ⟨_, rfl⟩
    have Ba := blk_nw hWa
    have ka := bel_nw hWa
    obtain ⟨Wb, hWb⟩ : ∃ W, Wa.setRow wr.heap.size q.v = W := ⟨_, rfl⟩
    have Bb : Blk Wb wr.heap.size 44 q.v := by rw [← hWb]; exact Ba.set q.v
    have kb : Below wr.heap.size wr Wb := by rw [← hWb]; exact below_setRow ka (Nat.le_refl _) q.v
    have HWb : Hid _ := hWb
    have Tb := hB.out.apart (ab := wr.heap.size) kb (Nat.le_refl _) Bb.lt
    have HTb : Hid _ := Tb
    have hqb := hqok.below kb
    have c0 := Bb.cell 0 (.bool q.tk) rfl
    have c1 := Bb.cell 1 (.int .i64 q.nw) rfl
    have nab : ∀ {k : Nat}, DocB rb ga L k → ¬ k = wr.heap.size := fun {k} hk e => by have := hB.out.d.lows k hk; omega
    have HNA : Hid _ := @nab
    clear hWb nab
    have hca : CellsAt wr ab (ao + j * 17) q.v := hcw
    clear hcw hqok ka
    cases htk : q.tk
    ·rw [htk] at c0
     have KP : Hid _ := Tb.p.put q.q.p q.q.xa q.q.xc q.q.da q.q.dc hqb.q.p hqb.q.data hqb.q.dnil hqb.q.exts hqb.q.xnil
     have HQ : Hid (q.q.ok w) := (HR.out.each q (List.mem_of_getElem? hq)).q
     clear hqb Tb
     go_wp2_with (first
      | (refine wpList_load_at rfl _ _ rfl ab (ao + j * 17) (by rfl) _ hca Try.underlying44 (by kernel_rfl) ?_)
      | (refine wpList_store_row rfl _ _ _ rfl wr.heap.size q.v (by rfl) (by rfl) _ _ Ba (by kernel_rfl) (by rfl) (by kernel_rfl) ?_; rw [HWb.out])
      | (refine wpList_load_sub rfl _ _ rfl wr.heap.size 2 44 (by rfl) _ q.q.v Bb (by rfl) Try.underlying42 (by kernel_rfl) ?_))
     refine Calls.mono KP.out ?_
     rintro e W4 ⟨xa', xc', da', dc', rfl, T4, rx4, rd4, fd4, fx4, bt4⟩
     have H4 := HTb.out.half T4 bt4
     have A4 : Blk W4 wr.heap.size 44 q.v := Bb.but bt4 (fun h => h.1 (.inr rfl))
     have lw4 := H4.d.lows
     obtain ⟨W5, hW5⟩ : ∃ W, W4.alloc (.cells (pkV (putF s q.q.p).2.1 xa' xc' da' dc') 42) = W := ⟨_, rfl⟩
     have H5 := H4.below (bel_nw hW5)
     have A5 := A4.al hW5
     have P5 := blk_nw hW5
     have bw5 : Below w.heap.size w W5 := b1.trans (H5.p.bel.mono b1.size)
     have KD : Hid _ := H5.put (p := q.q) (HQ.out.below bw5)
     have rx5 := rx4.below (bel_nw hW5)
     have rd5 := rd4.below (bel_nw hW5)
     have szb := bt4.size
     have lwb := HTb.out.d.lows
     have nP : ¬ DocB rb ga L W4.heap.size := fun hd => by have := lw4 _ hd; omega
     have nx : Off (fun b => DocB rb ga L b) xa' := fun x hx hd => (fx4 x hx).2 (.inl hd)
     have nd : Off (fun b => DocB rb ga L b) da' := fun x hx hd => by have h1 := fd4 x hx; have h2 := lwb _ hd; omega
     clear KP H4 A4 T4 rx4 rd4 fd4 fx4 bt4 lw4 lwb c0 c1 Bb Ba hca HWb H5
     go_wp2_with (refine wpList_load_sub rfl _ _ rfl wr.heap.size 2 44 (by rfl) _ q.q.v A5 (by rfl) Try.underlying42 (by kernel_rfl) ?_)
     refine Calls.mono KD.out ?_
     rintro e W6 ⟨ga8, gc8, L8, xa2, xc2, da2, dc2, rfl, B6, rx6, rd6, bt6⟩
     have P6 := P5.but bt6 nP
     have sx6 := rx5.but bt6 nx
     have sd6 := rd5.but bt6 nd
     obtain ⟨W7, hW7⟩ : ∃ W, W6.alloc (.cells (pkV (putF s q.q.p).2.1 xa2 xc2 da2 dc2) 42) = W := ⟨_, rfl⟩
     have B7 := B6.below (bel_nw hW7)
     have P7 := P6.al hW7
     have Q7 := blk_nw hW7
     have KS : Hid _ := same_ip6 (putF s q.q.p).2.1.f (putF s q.q.p).2.1.s.fam (putF s q.q.p).2.1.s.hi (putF s q.q.p).2.1.s.lo (putF s q.q.p).2.1.d.fam (putF s q.q.p).2.1.d.hi (putF s q.q.p).2.1.d.lo (putF s q.q.p).2.1.pr (putF s q.q.p).2.1.ho (putF s q.q.p).2.1.fg (putF s q.q.p).2.1.id (putF s q.q.p).2.1.of (putF s q.q.p).2.1.mo xa' xc' xa2 xc2 (putF s q.q.p).2.1.X da' dc' da2 dc2 (putF s q.q.p).2.1.dat W7 (sd6.below (bel_nw hW7)) (rd6.below (bel_nw hW7)) (sx6.below (bel_nw hW7)) (rx6.below (bel_nw hW7))
     have HB7 : Hid _ := B7
     clear KD A5 P5 rx5 rd5 nP nx nd P6 sx6 sd6 rx6 rd6 bt6 B6 B7
     generalize (putF s q.q.p).1 = s8 at HB7
     generalize (putF s q.q.p).2.2 = er at *
     generalize (putF s q.q.p).2.1 = an at *
     have hp15 := info_pk an xa' xc' da' dc'
     have hp16 := info_pk an xa2 xc2 da2 dc2
     go_wp2_with (first
      | (refine wpList_load_at_w (by kernel_rfl) _ _ rfl W4.heap.size 0 (by rfl) _ P7.at_ Try.underlying42 hp15 ?_)
      | (refine wpList_load_at_w (by kernel_rfl) _ _ rfl W6.heap.size 0 (by rfl) _ Q7.at_ Try.underlying42 hp16 ?_))
     refine Calls.mono KS.out ?_
     rintro e W8 ⟨rfl, b8⟩
     have BT := HB7.out.below b8
     obtain ⟨cl8, hcl8⟩ : ∃ cl8, cl = cl8 := ⟨_, rfl⟩
     rw [hcl8] at BT
     clear hcl8 KS HB7 b8 P7 Q7
     have few8 := BT.p.ok.few
     have eN : (s8.E.length : Int) = (L8.length : Int) := by have := BT.rel.len; rw [this]; show ((L8.map DgIn.dg).length : Int) = _; rw [List.length_map]
     have eB : s8.by_ = lenG L8 := by rw [lenG_dg]; exact BT.rel.bytes BT.p.ok
     have eC : s8.now = cl8 := BT.rel.now
     have hl8 : lenG L8 ≤ 1099511627776 := by have h1 := BT.p.ok.bytes; have h2 := BT.p.ok.room; omega
     go_wp2_with fail
     have Bd := BT.below (Below.refl _ _).drew
     have HBd : Hid _ := Bd
     obtain ⟨_, _, _, k3, k4⟩ := tab_cells Bd.d.t.blk
     refine wp_region_noPanic ?_
     refine wp_region_held_drew (S := fun w' => w'.cell? ⟨rb, 3, none⟩ = some (.int .i64 cl8) ∧ w'.cell? ⟨rb, 4, none⟩ = some (.slice ga8 L8.length gc8)) (by kernel_rfl) (by exact ⟨k3, k4⟩) (fun hHeld => ?_)
     generalize W8.drew = V at Bd HBd k3 k4 hHeld ⊢
     clear BT
     refine qtk (i := 0) (oi := fpz52o20) (v := (.pointer (some ⟨tb, 0, none⟩))) hHeld ?_ ?_
     ·intro w9 hSw
      try dsimp only at hSw
      go_simp
     try simp only [qpu]
     refine qtk (i := 2) (oi := fpz52o19) (v := (.pointer (some ⟨rb, 4, none⟩))) hHeld ?_ ?_
     ·intro w9 hSw
      try dsimp only at hSw
      go_simp
     try simp only [qpu]
     refine qtk (i := 3) (oi := fpz52o11) (v := (.slice ga8 L8.length gc8)) hHeld ?_ ?_
     ·intro w9 hSw
      try dsimp only at hSw
      have hcc := hSw.2
      go_simp
     try simp only [qpu]
     refine qtk (i := 4) (oi := fpz52o6) (v := (.int .i64 (L8.length : Int))) hHeld ?_ ?_
     ·intro w9 hSw
      try dsimp only at hSw
      go_simp
     try simp only [qpu]
     refine wpAnyH_ready (rs := [1]) (by kernel_rfl) (by simp) ?_
     refine AllReadyH.cons (o := fpz52o5) rfl (fun K hK => ?_) AllReadyH.nil
     go_simp
     refine Calls.mono (Bd.p.grams) ?_
     rintro e w' ⟨rfl, hw'⟩
     rw [hw', eN]
     clear hw' w'
     refine hK.out _ _ (by exact ⟨k3, k4⟩) (fun hHeld => ?_)
     clear hK K
     try simp only [qpu]
     refine qtk (i := 5) (oi := fpz52o7) (v := (.bool false)) hHeld ?_ ?_
     ·intro w9 hSw
      try dsimp only at hSw
      go_simp
     try simp only [qpu]
     refine qtk (i := 6) (oi := fpz52o14) (v := (.bool false)) hHeld ?_ ?_
     ·intro w9 hSw
      try dsimp only at hSw
      go_simp
     try simp only [qpu]
     refine qtk (i := 7) (oi := fpz52o16) (v := (.pointer (some ⟨tb, 0, none⟩))) hHeld ?_ ?_
     ·intro w9 hSw
      try dsimp only at hSw
      go_simp
     try simp only [qpu]
     refine wpAnyH_ready (rs := [8]) (by kernel_rfl) (by simp) ?_
     refine AllReadyH.cons (o := fpz52o1) rfl (fun K hK => ?_) AllReadyH.nil
     go_simp
     refine Calls.mono (Bd.p.bytes) ?_
     rintro e w' ⟨rfl, hw'⟩
     rw [hw', eB]
     clear hw' w'
     refine hK.out _ _ (by exact ⟨k3, k4⟩) (fun hHeld => ?_)
     clear hK K
     try simp only [qpu]
     refine wpAnyH_ready (rs := [9]) (by kernel_rfl) (by simp) ?_
     refine AllReadyH.cons (o := fpz52o2) rfl (fun K hK => ?_) AllReadyH.nil
     go_simp
     refine Calls.mono ((rbytes_any rb ga8 gc8 L8 _ k4 Bd.d.t.row Bd.d.t.few hl8)) ?_
     rintro e w' ⟨rfl, hw'⟩
     rw [hw']
     clear hw' w'
     refine hK.out _ _ (by exact ⟨k3, k4⟩) (fun hHeld => ?_)
     clear hK K
     try simp only [qpu]
     refine qtk (i := 10) (oi := fpz52o4) (v := (.bool false)) hHeld ?_ ?_
     ·intro w9 hSw
      try dsimp only at hSw
      go_simp
     try simp only [qpu]
     refine qtk (i := 11) (oi := fpz52o9) (v := (.bool false)) hHeld ?_ ?_
     ·intro w9 hSw
      try dsimp only at hSw
      go_simp
     try simp only [qpu]
     refine qtk (i := 12) (oi := fpz52o12) (v := (.bool false)) hHeld ?_ ?_
     ·intro w9 hSw
      try dsimp only at hSw
      go_simp
     try simp only [qpu]
     refine qtk (i := 13) (oi := fpz52o15) (v := (.pointer (some ⟨tb, 0, none⟩))) hHeld ?_ ?_
     ·intro w9 hSw
      try dsimp only at hSw
      go_simp
     try simp only [qpu]
     refine qtk (i := 15) (oi := fpz52o13) (v := (.pointer (some ⟨rb, 3, none⟩))) hHeld ?_ ?_
     ·intro w9 hSw
      try dsimp only at hSw
      go_simp
     try simp only [qpu]
     refine qtk (i := 16) (oi := fpz52o10) (v := (.int .i64 cl8)) hHeld ?_ ?_
     ·intro w9 hSw
      try dsimp only at hSw
      have hcc := hSw.1
      go_simp
     try simp only [qpu]
     refine wpAnyH_ready (rs := [14]) (by kernel_rfl) (by simp) ?_
     refine AllReadyH.cons (o := fpz52o0) rfl (fun K hK => ?_) AllReadyH.nil
     go_simp
     refine Calls.mono (Bd.p.now) ?_
     rintro e w' ⟨rfl, hw'⟩
     rw [hw', eC]
     clear hw' w'
     refine hK.out _ _ (by exact ⟨k3, k4⟩) (fun hHeld => ?_)
     clear hK K
     try simp only [qpu]
     refine qtk (i := 17) (oi := fpz52o3) (v := (.bool false)) hHeld ?_ ?_
     ·intro w9 hSw
      try dsimp only at hSw
      go_simp
     try simp only [qpu]
     refine qtk (i := 18) (oi := fpz52o8) (v := (.bool false)) hHeld ?_ ?_
     ·intro w9 hSw
      try dsimp only at hSw
      go_simp
     try simp only [qpu]
     refine wpAnyH_done (by kernel_rfl) ?_ _
     refine NoPanic.normal ?_
     go_wp2_with fail
     exact ⟨⟨j + 1, by omega, int_eq (by omega), s8, cl8, ga8, gc8, L8, HBd.out.drop⟩, by simp [intOf] <;> omega⟩
    ·rw [htk] at c0
     clear hqb Tb
     go_wp2_with (first
      | (refine wpList_load_at rfl _ _ rfl ab (ao + j * 17) (by rfl) _ hca Try.underlying44 (by kernel_rfl) ?_)
      | (refine wpList_store_row rfl _ _ _ rfl wr.heap.size q.v (by rfl) (by rfl) _ _ Ba (by kernel_rfl) (by rfl) (by kernel_rfl) ?_; rw [HWb.out]))
     have Bd0 := HTb.out.below (Below.refl _ _).drew
     have cd := Bb.drew
     clear c0 c1 Bb Ba hca HWb
     refine wp_region_noPanic ?_
     refine wp_region_held_drew (S := fun w' => Blk w' wr.heap.size 44 q.v) (by kernel_rfl) (by exact cd) (fun hHeld => ?_)
     generalize Wb.drew = V at Bd0 cd hHeld ⊢
     refine qtk (i := 0) (oi := { dst := some 59, op := Op.move (.tmp 5), type := 25, pos := "law.go:49", after := #[], guard := none }) (v := (.pointer (some ⟨tb, 0, none⟩))) hHeld ?_ ?_
     ·intro w9 hSw
      try dsimp only at hSw
      go_simp
     try simp only [qpu]
     refine qtk (i := 1) (oi := { dst := some 60, op := Op.fieldAddr 44 (.tmp 10) 1, type := 0, pos := "law.go:49", after := #[], guard := none }) (v := (.pointer (some ⟨wr.heap.size, 1, none⟩))) hHeld ?_ ?_
     ·intro w9 hSw
      try dsimp only at hSw
      go_simp
     try simp only [qpu]
     refine qtk (i := 2) (oi := { dst := some 61, op := Op.load 3 (.tmp 60), type := 3, pos := "law.go:49", after := #[{ on := 1, ground := Ground.data }], guard := none }) (v := (.int .i64 q.nw)) hHeld ?_ ?_
     ·intro w9 hSw
      try dsimp only at hSw
      have hcc := hSw.cell 1 (.int .i64 q.nw) rfl
      go_simp
     try simp only [qpu]
     refine qtk (i := 4) (oi := { dst := some 63, op := Op.fieldAddr 44 (.tmp 10) 1, type := 0, pos := "law.go:49", after := #[], guard := none }) (v := (.pointer (some ⟨wr.heap.size, 1, none⟩))) hHeld ?_ ?_
     ·intro w9 hSw
      try dsimp only at hSw
      go_simp
     try simp only [qpu]
     refine qtk (i := 5) (oi := { dst := some 64, op := Op.load 3 (.tmp 63), type := 3, pos := "law.go:49", after := #[{ on := 4, ground := Ground.data }], guard := none }) (v := (.int .i64 q.nw)) hHeld ?_ ?_
     ·intro w9 hSw
      try dsimp only at hSw
      have hcc := hSw.cell 1 (.int .i64 q.nw) rfl
      go_simp
     try simp only [qpu]
     refine wpAnyH_ready (rs := [3]) (by kernel_rfl) (by simp) ?_
     refine AllReadyH.cons (o := { dst := some 62, op := Op.call { callee := Callee.value (.func 15), args := #[.tmp 59, .tmp 61], argTypes := #[25, 3] }, type := 26, pos := "law.go:49", after := #[{ on := 0, ground := Ground.data }, { on := 2, ground := Ground.data }], guard := none }) rfl (fun K hK => ?_) AllReadyH.nil
     go_simp
     refine Calls.mono ((Bd0.p.tick q.nw)) ?_
     rintro e V1 ⟨rfl, T1, bt1⟩
     have H1 := Bd0.half T1 bt1
     have A1 : Blk V1 wr.heap.size 44 q.v := cd.but bt1 (fun h => h.1 (.inr rfl))
     clear T1 bt1
     refine hK.out _ _ (by exact A1) (fun hHeld => ?_)
     clear hK K
     try simp only [qpu]
     refine wpAnyH_ready (rs := [6]) (by kernel_rfl) (by simp) ?_
     refine AllReadyH.cons (o := { dst := some 65, op := Op.call { callee := Callee.value (.func 16), args := #[.tmp 7, .tmp 64], argTypes := #[31, 3] }, type := 3, pos := "law.go:49", after := #[{ on := 5, ground := Ground.data }, { on := 3, ground := Ground.chain }], guard := none }) rfl (fun K hK => ?_) AllReadyH.nil
     go_simp
     refine Calls.mono ((H1.tick)) ?_
     rintro e W8 ⟨cl8, ga8, gc8, L8, rfl, BT, bt2⟩
     have A2 : Blk W8 wr.heap.size 44 q.v := A1.but bt2 (fun hd => HNA.out hd rfl)
     clear bt2 H1
     refine hK.out _ _ (by exact A2) (fun hHeld => ?_)
     clear hK K
     try simp only [qpu]
     refine qtk (i := 7) (oi := { dst := some 66, op := Op.binOp BinOp.neq 3 (.tmp 62) (.tmp 65) 3, type := 4, pos := "law.go:49", after := #[{ on := 3, ground := Ground.data }, { on := 6, ground := Ground.data }], guard := none }) (v := (.bool false)) hHeld ?_ ?_
     ·intro w9 hSw
      try dsimp only at hSw
      go_simp
     try simp only [qpu]
     refine wpAnyH_done (by kernel_rfl) ?_ _
     refine NoPanic.normal ?_
     generalize (tickF s q.nw).1 = s8 at BT
     generalize (tickF s q.nw).2 = er at *
     clear hHeld A1 A2 cd Bd0
     have few8 := BT.p.ok.few
     have eN : (s8.E.length : Int) = (L8.length : Int) := by have := BT.rel.len; rw [this]; show ((L8.map DgIn.dg).length : Int) = _; rw [List.length_map]
     have eB : s8.by_ = lenG L8 := by rw [lenG_dg]; exact BT.rel.bytes BT.p.ok
     have eC : s8.now = cl8 := BT.rel.now
     have hl8 : lenG L8 ≤ 1099511627776 := by have h1 := BT.p.ok.bytes; have h2 := BT.p.ok.room; omega
     go_wp2_with fail
     have Bd := BT.below (Below.refl _ _).drew
     have HBd : Hid _ := Bd
     obtain ⟨_, _, _, k3, k4⟩ := tab_cells Bd.d.t.blk
     refine wp_region_noPanic ?_
     refine wp_region_held_drew (S := fun w' => w'.cell? ⟨rb, 3, none⟩ = some (.int .i64 cl8) ∧ w'.cell? ⟨rb, 4, none⟩ = some (.slice ga8 L8.length gc8)) (by kernel_rfl) (by exact ⟨k3, k4⟩) (fun hHeld => ?_)
     generalize W8.drew = V at Bd HBd k3 k4 hHeld ⊢
     clear BT
     refine qtk (i := 0) (oi := fpz52o20) (v := (.pointer (some ⟨tb, 0, none⟩))) hHeld ?_ ?_
     ·intro w9 hSw
      try dsimp only at hSw
      go_simp
     try simp only [qpu]
     refine qtk (i := 2) (oi := fpz52o19) (v := (.pointer (some ⟨rb, 4, none⟩))) hHeld ?_ ?_
     ·intro w9 hSw
      try dsimp only at hSw
      go_simp
     try simp only [qpu]
     refine qtk (i := 3) (oi := fpz52o11) (v := (.slice ga8 L8.length gc8)) hHeld ?_ ?_
     ·intro w9 hSw
      try dsimp only at hSw
      have hcc := hSw.2
      go_simp
     try simp only [qpu]
     refine qtk (i := 4) (oi := fpz52o6) (v := (.int .i64 (L8.length : Int))) hHeld ?_ ?_
     ·intro w9 hSw
      try dsimp only at hSw
      go_simp
     try simp only [qpu]
     refine wpAnyH_ready (rs := [1]) (by kernel_rfl) (by simp) ?_
     refine AllReadyH.cons (o := fpz52o5) rfl (fun K hK => ?_) AllReadyH.nil
     go_simp
     refine Calls.mono (Bd.p.grams) ?_
     rintro e w' ⟨rfl, hw'⟩
     rw [hw', eN]
     clear hw' w'
     refine hK.out _ _ (by exact ⟨k3, k4⟩) (fun hHeld => ?_)
     clear hK K
     try simp only [qpu]
     refine qtk (i := 5) (oi := fpz52o7) (v := (.bool false)) hHeld ?_ ?_
     ·intro w9 hSw
      try dsimp only at hSw
      go_simp
     try simp only [qpu]
     refine qtk (i := 6) (oi := fpz52o14) (v := (.bool false)) hHeld ?_ ?_
     ·intro w9 hSw
      try dsimp only at hSw
      go_simp
     try simp only [qpu]
     refine qtk (i := 7) (oi := fpz52o16) (v := (.pointer (some ⟨tb, 0, none⟩))) hHeld ?_ ?_
     ·intro w9 hSw
      try dsimp only at hSw
      go_simp
     try simp only [qpu]
     refine wpAnyH_ready (rs := [8]) (by kernel_rfl) (by simp) ?_
     refine AllReadyH.cons (o := fpz52o1) rfl (fun K hK => ?_) AllReadyH.nil
     go_simp
     refine Calls.mono (Bd.p.bytes) ?_
     rintro e w' ⟨rfl, hw'⟩
     rw [hw', eB]
     clear hw' w'
     refine hK.out _ _ (by exact ⟨k3, k4⟩) (fun hHeld => ?_)
     clear hK K
     try simp only [qpu]
     refine wpAnyH_ready (rs := [9]) (by kernel_rfl) (by simp) ?_
     refine AllReadyH.cons (o := fpz52o2) rfl (fun K hK => ?_) AllReadyH.nil
     go_simp
     refine Calls.mono ((rbytes_any rb ga8 gc8 L8 _ k4 Bd.d.t.row Bd.d.t.few hl8)) ?_
     rintro e w' ⟨rfl, hw'⟩
     rw [hw']
     clear hw' w'
     refine hK.out _ _ (by exact ⟨k3, k4⟩) (fun hHeld => ?_)
     clear hK K
     try simp only [qpu]
     refine qtk (i := 10) (oi := fpz52o4) (v := (.bool false)) hHeld ?_ ?_
     ·intro w9 hSw
      try dsimp only at hSw
      go_simp
     try simp only [qpu]
     refine qtk (i := 11) (oi := fpz52o9) (v := (.bool false)) hHeld ?_ ?_
     ·intro w9 hSw
      try dsimp only at hSw
      go_simp
     try simp only [qpu]
     refine qtk (i := 12) (oi := fpz52o12) (v := (.bool false)) hHeld ?_ ?_
     ·intro w9 hSw
      try dsimp only at hSw
      go_simp
     try simp only [qpu]
     refine qtk (i := 13) (oi := fpz52o15) (v := (.pointer (some ⟨tb, 0, none⟩))) hHeld ?_ ?_
     ·intro w9 hSw
      try dsimp only at hSw
      go_simp
     try simp only [qpu]
     refine qtk (i := 15) (oi := fpz52o13) (v := (.pointer (some ⟨rb, 3, none⟩))) hHeld ?_ ?_
     ·intro w9 hSw
      try dsimp only at hSw
      go_simp
     try simp only [qpu]
     refine qtk (i := 16) (oi := fpz52o10) (v := (.int .i64 cl8)) hHeld ?_ ?_
     ·intro w9 hSw
      try dsimp only at hSw
      have hcc := hSw.1
      go_simp
     try simp only [qpu]
     refine wpAnyH_ready (rs := [14]) (by kernel_rfl) (by simp) ?_
     refine AllReadyH.cons (o := fpz52o0) rfl (fun K hK => ?_) AllReadyH.nil
     go_simp
     refine Calls.mono (Bd.p.now) ?_
     rintro e w' ⟨rfl, hw'⟩
     rw [hw', eC]
     clear hw' w'
     refine hK.out _ _ (by exact ⟨k3, k4⟩) (fun hHeld => ?_)
     clear hK K
     try simp only [qpu]
     refine qtk (i := 17) (oi := fpz52o3) (v := (.bool false)) hHeld ?_ ?_
     ·intro w9 hSw
      try dsimp only at hSw
      go_simp
     try simp only [qpu]
     refine qtk (i := 18) (oi := fpz52o8) (v := (.bool false)) hHeld ?_ ?_
     ·intro w9 hSw
      try dsimp only at hSw
      go_simp
     try simp only [qpu]
     refine wpAnyH_done (by kernel_rfl) ?_ _
     refine NoPanic.normal ?_
     go_wp2_with fail
     exact ⟨⟨j + 1, by omega, int_eq (by omega), s8, cl8, ga8, gc8, L8, HBd.out.drop⟩, by simp [intOf] <;> omega⟩
   ·have e : j = l.length := by omega
    subst e
    have i1 : ¬ (↑l.length : Int) < ↑l.length := by omega
    go_wp2_with fail
    go_ret
    exact ⟨rfl, b1.trans (hB.out.p.bel.mono b1.size)⟩
 ·have KN : Hid _ := new_no gr by_ lf W1 hc
  have hb : badNew gr by_ lf := by unfold badNew; unfold capsOk at hc; omega
  have KR : Hid (∀ W, Calls Try.prog 13 #[.int .i64 gr, .int .i64 by_, .int .i64 lf] W _) := fun W => rnew_bad gr by_ lf W hb
  have KA : Hid (∀ W, Calls Try.prog 14 #[] W _) := fun W => falive_any W
  clear hc hb
  go_enter Try.func3, Try.ntmps3
  go_wp2_with fail
  refine Calls.mono KN.out ?_
  rintro e W2 ⟨rfl, hWs⟩
  rw [hWs]
  clear hWs KN
  go_wp2_with fail
  refine Calls.mono (KR.out _) ?_
  rintro e W3 ⟨rfl, b3⟩
  have B3 := bel_tr b1 b3
  clear KR d0 d1 d2
  go_wp2_with fail
  refine Calls.mono (KA.out _) ?_
  rintro e W5 ⟨rfl, b5⟩
  have B5 := (B3.alloc B3.size (.cells (tabV 0 0 0 0 none 0 0) 31)).trans (b5.mono (by have := B3.size; rw [World.size_alloc]; omega))
  clear KA
  go_wp2_with fail
  go_ret
  exact ⟨rfl, B5⟩
end Go.Proofs.Ytkeeidfpgfdldaa
