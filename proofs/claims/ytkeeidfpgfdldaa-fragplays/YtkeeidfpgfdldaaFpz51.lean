/- Texts joined: FpN FpY FpZ FiO -/
import Derived.Test.YtkeeidfpgfdldaaFpz41
import Derived.Test.YtkeeidfpgfdldaaFpz42
import Derived.Test.YtkeeidfpgfdldaaFpz43
import Derived.Test.YtkeeidfpgfdldaaFpz44
import Derived.Test.YtkeeidfpgfdldaaFpz45
import Derived.Test.YtkeeidfpgfdldaaFpz46
import Derived.Test.YtkeeidfpgfdldaaFpz49
import Derived.Test.YtkeeidfpgfdldaaFpz50
namespace Go.Proofs.Ytkeeidfpgfdldaa
open Go.RowKit
set_option linter.unusedVariables false
set_option linter.unusedSimpArgs false
set_option maxRecDepth 100000 in
set_option maxHeartbeats 8000000 in
theorem rput_plain (tb : Nat) (f sf sh sl df dh dl pr ho : Int) (id of : Int) (mo : Bool) (xa : Option Addr) (xn xc : Nat) (da : Option Addr) (dn dc : Nat) (w : World) :
  Calls Try.prog 18 #[.pointer (some ⟨tb, 0, none⟩), .agg #[.int .i64 f, .int .i64 sf, .int .u64 sh, .int .u64 sl, .int .i64 df, .int .u64 dh, .int .u64 dl, .int .i64 pr, .int .i64 ho, .bool false, .int .u32 id, .int .i64 of, .bool mo, .slice xa xn xc, .slice da dn dc]] w fun e w' => e = .returned (.tuple #[.agg #[.int .i64 f, .int .i64 sf, .int .u64 sh, .int .u64 sl, .int .i64 df, .int .u64 dh, .int .u64 dl, .int .i64 pr, .int .i64 ho, .bool false, .int .u32 id, .int .i64 of, .bool mo, .slice xa xn xc, .slice da dn dc], .int .i64 0]) ∧ Below w.heap.size w w' := by
 obtain ⟨W1, hW1⟩ : ∃ W1, w.alloc (.cells #[.int .i64 f, .int .i64 sf, .int .u64 sh, .int .u64 sl, .int .i64 df, .int .u64 dh, .int .u64 dl, .int .i64 pr, .int .i64 ho, .bool false, .int .u32 id, .int .i64 of, .bool mo, .slice xa xn xc, .slice da dn dc] 42) = W1 := ⟨_, rfl⟩
 obtain ⟨W2, hW2⟩ : ∃ W2, W1.alloc (.cells z15 42) = W2 := ⟨_, rfl⟩
 have b2 := bel_al (bel_nw hW1) hW2
 have HB : Hid (Blk W2 w.heap.size 42 #[.int .i64 f, .int .i64 sf, .int .u64 sh, .int .u64 sl, .int .i64 df, .int .u64 dh, .int .u64 dl, .int .i64 pr, .int .i64 ho, .bool false, .int .u32 id, .int .i64 of, .bool mo, .slice xa xn xc, .slice da dn dc]) := (blk_nw hW1).al hW2
 have RB : Blk W2 W1.heap.size 42 z15 := blk_nw hW2
 have HRB : Hid (Blk W2 W1.heap.size 42 z15) := RB
 have HLE : Hid (w.heap.size ≤ W1.heap.size) := (bel_nw hW1).size
 have at1 := HB.out.at_
 have c9 := HB.out.cell 9 (.bool false) rfl
 have hs : (Try.prog.info? 42).map (·.size) = some 15 := by kernel_rfl
 go_enter Try.func18, Try.ntmps18
 go_wp2_with (first
  | (refine wpList_load_at rfl _ _ rfl w.heap.size 0 (by rfl) _ at1 Try.underlying42 hs ?_)
  | (refine wpList_store_blk rfl 42 _ _ rfl W1.heap.size #[.int .i64 f, .int .i64 sf, .int .u64 sh, .int .u64 sl, .int .i64 df, .int .u64 dh, .int .u64 dl, .int .i64 pr, .int .i64 ho, .bool false, .int .u32 id, .int .i64 of, .bool mo, .slice xa xn xc, .slice da dn dc] z15 (by rfl) (by rfl) RB (by kernel_rfl) rfl (by simp [Value.oneCell']) ?_))
 exact ret_cell_tmp (k := 4) (j := 5) Try.f18 (by kernel_rfl) (RB.set _) Try.underlying42 (by kernel_rfl) (by rfl) (by rfl) rfl ⟨rfl, below_setRow b2 HLE.out _⟩
theorem lo_nonneg {x : Int} (h : (Lit.int .u64 x).wf = true) : 0 ≤ x := by
 have : (0 ≤ x ∧ x ≤ 18446744073709551615) := by simpa [Lit.wf, IntKind.min, IntKind.max, IntKind.signed, IntKind.bits] using h
 exact this.1
theorem put_bad_eq {t : Dt} {p : Pkt} (hf : p.fg = true) (hw : wrongP p ≠ 0) : putD t p = (t, pk0, wrongP p) := by
 unfold putD
 rw [if_neg (by rw [hf]; simp), if_pos hw]
set_option maxRecDepth 100000 in
set_option maxHeartbeats 4000000 in
/-- The document's Put. -/
theorem rput_any (tb : Nat) (ms ro li cl : Int) (ga : Option Addr) (gc : Nat) (L : List DgIn) (p : PkIn) (w : World) (h : DocU w tb ms ro li cl ga gc L) (hp : p.ok w) (he0 : -9223372036854775808 ≤ cl + li) (he1 : cl + li ≤ 9223372036854775807) (hlen : lenG L ≤ 1099511627776) (hms : ms ≤ 65536) (hdg : ∀ g ∈ L, DgOk g.dg) (hkeys : (L.map DgIn.dg).Pairwise fun a b => a.key ≠ b.key) :
  Calls Try.prog 18 #[.pointer (some ⟨tb, 0, none⟩), .agg p.v] w (PutGot w tb ms ro li cl ga L p.p) := by
 obtain ⟨⟨f, ⟨sf, sh, sl⟩, ⟨df, dh, dl⟩, pr, ho, fg, id, of, mo, X, D⟩, xa, xc, da, dc⟩ := p
 have hsl : 0 ≤ sl := lo_nonneg hp.p.k3
 have hdl : 0 ≤ dl := lo_nonneg hp.p.k6
 have hdn : D.length ≤ 140737488355328 := hp.data.small
 cases fg with
 | false =>
  refine (rput_plain tb f sf sh sl df dh dl pr ho id of mo xa X.length xc da D.length dc w).mono ?_
  rintro e w' ⟨rfl, bw⟩
  refine ⟨ga, gc, L, _, xa, xc, da, dc, 0, rfl, h.but (But.of_bel bw) (fun b hd => by have := h.lows b hd; omega), ?_, hp.exts.below bw, hp.xnil, hp.data.below bw, hp.dnil, But.of_below bw _, fun b hb => .inl hb⟩
  unfold putD
  rw [if_pos rfl]
 | true =>
  by_cases hw : wrongP ⟨f, ⟨sf, sh, sl⟩, ⟨df, dh, dl⟩, pr, ho, true, id, of, mo, X, D⟩ = 0
  ·exact rput_take tb ms ro li cl ga gc L f sf sh sl df dh dl pr ho id of mo xa xc da dc X D w h hp hdn hsl hdl hw he0 he1 hlen hms hdg hkeys
  ·have fin : ∀ (er : Int) (W : World), wrongF f ⟨sf, sh, sl⟩ ⟨df, dh, dl⟩ of mo D.length = er → Below w.heap.size w W → PutGot w tb ms ro li cl ga L ⟨f, ⟨sf, sh, sl⟩, ⟨df, dh, dl⟩, pr, ho, true, id, of, mo, X, D⟩ (.returned (.tuple #[.agg z15, .int .i64 er])) W := fun er W he bw => by
    refine fin_keep h bw ?_
    rw [put_bad_eq rfl hw]
    rw [show wrongP ⟨f, ⟨sf, sh, sl⟩, ⟨df, dh, dl⟩, pr, ho, true, id, of, mo, X, D⟩ = er from he]
   have hwF : wrongF f ⟨sf, sh, sl⟩ ⟨df, dh, dl⟩ of mo D.length ≠ 0 := hw
   have HE : endsB f ⟨sf, sh, sl⟩ ⟨df, dh, dl⟩ = false ↔ ((Ad.right ⟨sf, sh, sl⟩ && (sf == f)) = false ∨ (Ad.right ⟨df, dh, dl⟩ && (df == f)) = false) := by
    unfold endsB
    cases Ad.right ⟨sf, sh, sl⟩ <;> cases Ad.right ⟨df, dh, dl⟩ <;> cases (sf == f) <;> cases (df == f) <;> simp
   have hw1 : endsB f ⟨sf, sh, sl⟩ ⟨df, dh, dl⟩ = true → wrongF f ⟨sf, sh, sl⟩ ⟨df, dh, dl⟩ of mo D.length = if of < 0 ∨ of > 65528 ∨ of % 8 ≠ 0 ∨ (D.length : Int) > 65535 - of then 1 else if D.length = 0 ∨ (mo = true ∧ D.length % 8 ≠ 0) then 5 else 0 := fun he => by
    unfold wrongF
    rw [if_neg (fun hh => by rw [HE.2 hh] at he; cases he)]
   cases heb : endsB f ⟨sf, sh, sl⟩ ⟨df, dh, dl⟩ with
   | false =>
    go_enter Try.func18, Try.ntmps18
    exact put_bad_a _ _ tb f sf sh sl df dh dl pr ho id of mo xa X.length xc da D.length dc w hsl hdl hdn heb (fun W bw => fin 1 W (by unfold wrongF; rw [if_pos (HE.1 heb)]) bw)
   | true =>
    have hw2 := hw1 heb
    rw [hw2] at hwF
    by_cases o1 : of < 0
    ·go_enter Try.func18, Try.ntmps18
     exact put_bad_b _ _ tb f sf sh sl df dh dl pr ho id of mo xa X.length xc da D.length dc w hsl hdl hdn heb o1 (fun W bw => fin 1 W (by rw [hw2, if_pos (.inl o1)]) bw)
    by_cases o2 : of > 65528
    ·go_enter Try.func18, Try.ntmps18
     exact put_bad_c _ _ tb f sf sh sl df dh dl pr ho id of mo xa X.length xc da D.length dc w hsl hdl hdn heb o1 o2 (fun W bw => fin 1 W (by rw [hw2, if_pos (.inr (.inl o2))]) bw)
    by_cases o3 : of % 8 = 0
    case neg =>
     go_enter Try.func18, Try.ntmps18
     exact put_bad_d _ _ tb f sf sh sl df dh dl pr ho id of mo xa X.length xc da D.length dc w hsl hdl hdn heb o1 o2 o3 (fun W bw => fin 1 W (by rw [hw2, if_pos (.inr (.inr (.inl o3)))]) bw)
    by_cases o4 : (D.length : Int) > 65535 - of
    ·go_enter Try.func18, Try.ntmps18
     exact put_bad_e _ _ tb f sf sh sl df dh dl pr ho id of mo xa X.length xc da D.length dc w hsl hdl hdn heb o1 o2 o3 o4 (fun W bw => fin 1 W (by rw [hw2, if_pos (.inr (.inr (.inr o4)))]) bw)
    have hn : ¬ (of < 0 ∨ of > 65528 ∨ of % 8 ≠ 0 ∨ (D.length : Int) > 65535 - of) := by omega
    rw [if_neg hn] at hw2 hwF
    by_cases o5 : D.length = 0
    ·go_enter Try.func18, Try.ntmps18
     exact put_bad_f _ _ tb f sf sh sl df dh dl pr ho id of mo xa X.length xc da D.length dc w hsl hdl hdn heb o1 o2 o3 o4 o5 (fun W bw => fin 5 W (by rw [hw2, if_pos (.inl o5)]) bw)
    by_cases o6 : mo = true ∧ D.length % 8 ≠ 0
    ·go_enter Try.func18, Try.ntmps18
     exact put_bad_g _ _ tb f sf sh sl df dh dl pr ho id of mo xa X.length xc da D.length dc w hsl hdl hdn heb o1 o2 o3 o4 o5 o6.1 o6.2 (fun W bw => fin 5 W (by rw [hw2, if_pos (.inr o6)]) bw)
    ·rw [if_neg (fun hh => hh.elim o5 o6)] at hwF
     exact absurd rfl hwF
theorem TabP.grow {B : Nat} {P P' F : Nat → Prop} {w0 wr w' : World} {tb mb : Nat} {s : Fs} (h : TabP B P w0 wr tb mb s) (b : But F wr w') (hF : ∀ k, F k → P k ∧ B ≤ k) (hP : ∀ k, P' k → P k ∨ wr.heap.size ≤ k) (hl : ∀ k, P' k → k < w'.heap.size) : TabP B P' w0 w' tb mb s := by
 have h2 := h.but b hF
 obtain ⟨G, T, hf, hp⟩ := h.ex
 refine ⟨⟨G, T.but b (fun k hk h => hp k (hF k h).1 hk), hf, fun k hk hF' => ?_⟩, hl, h2.bel, h2.le⟩
 rcases hP k hk with x | x
 ·exact hp k x hF'
 ·have := T.lt hF'
  omega
/-- The program's table and the document's, side by side. -/
structure Both (B : Nat) (E : Nat → Prop) (w0 wr : World) (tb mb rb : Nat) (s : Fs) (ms ro li cl : Int) (ga : Option Addr) (gc : Nat) (L : List DgIn) : Prop where
 p : TabP B (fun k => DocB rb ga L k ∨ E k) w0 wr tb mb s
 d : DocU wr rb ms ro li cl ga gc L
 rel : Rel s (docD ms ro li cl L)
 low : ∀ b, DocB rb ga L b → B ≤ b
theorem Both.below {B : Nat} {E : Nat → Prop} {w0 wr w' : World} {tb mb rb : Nat} {s : Fs} {ms ro li cl : Int} {ga : Option Addr} {gc : Nat} {L : List DgIn} (h : Both B E w0 wr tb mb rb s ms ro li cl ga gc L) (b : Below wr.heap.size wr w') : Both B E w0 w' tb mb rb s ms ro li cl ga gc L :=
 ⟨h.p.below b, h.d.but (But.of_bel b) (fun k hd => by have := h.d.lows k hd; omega), h.rel, h.low⟩
/-- Behind the program's call, ahead of the document's. -/
structure Half (B : Nat) (E : Nat → Prop) (w0 wr : World) (tb mb rb : Nat) (s s' : Fs) (ms ro li cl : Int) (ga : Option Addr) (gc : Nat) (L : List DgIn) : Prop where
 p : TabP B (fun k => DocB rb ga L k ∨ E k) w0 wr tb mb s'
 d : DocU wr rb ms ro li cl ga gc L
 rel : Rel s (docD ms ro li cl L)
 low : ∀ b, DocB rb ga L b → B ≤ b
 ok : FsOk s
theorem Half.below {B : Nat} {E : Nat → Prop} {w0 wr w' : World} {tb mb rb : Nat} {s s' : Fs} {ms ro li cl : Int} {ga : Option Addr} {gc : Nat} {L : List DgIn} (h : Half B E w0 wr tb mb rb s s' ms ro li cl ga gc L) (b : Below wr.heap.size wr w') : Half B E w0 w' tb mb rb s s' ms ro li cl ga gc L :=
 ⟨h.p.below b, h.d.but (But.of_bel b) (fun k hd => by have := h.d.lows k hd; omega), h.rel, h.low, h.ok⟩
theorem Both.half {B : Nat} {E : Nat → Prop} {w0 wr w' : World} {tb mb rb : Nat} {s s' : Fs} {ms ro li cl : Int} {ga : Option Addr} {gc : Nat} {L : List DgIn} (h : Both B E w0 wr tb mb rb s ms ro li cl ga gc L) (hp : TabP B (fun k => DocB rb ga L k ∨ E k) w0 w' tb mb s') (hb : But (fun k => ¬ (DocB rb ga L k ∨ E k) ∧ B ≤ k) wr w') : Half B E w0 w' tb mb rb s s' ms ro li cl ga gc L :=
 ⟨hp, h.d.but hb (fun k hd hf => hf.1 (.inl hd)), h.rel, h.low, h.p.ok⟩
/-- The document's Put behind the program's. -/
theorem Half.put {B : Nat} {E : Nat → Prop} {w0 wr : World} {tb mb rb : Nat} {s : Fs} {ms ro li cl : Int} {ga : Option Addr} {gc : Nat} {L : List DgIn} {p : PkIn} (h : Half B E w0 wr tb mb rb s (putF s p.p).1 ms ro li cl ga gc L) (hp : p.ok wr) :
  Calls Try.prog 18 #[.pointer (some ⟨rb, 0, none⟩), .agg p.v] wr fun e w' => ∃ (ga' : Option Addr) (gc' : Nat) (L' : List DgIn) (xa : Option Addr) (xc : Nat) (da : Option Addr) (dc : Nat), e = .returned (.tuple #[.agg (pkV (putF s p.p).2.1 xa xc da dc), .int .i64 (putF s p.p).2.2]) ∧ Both B E w0 w' tb mb rb (putF s p.p).1 ms ro li cl ga' gc' L' ∧ RowI w' xa (putF s p.p).2.1.X ∧ Row w' da (putF s p.p).2.1.dat ∧ But (fun b => DocB rb ga L b) wr w' := by
 have ho := h.ok
 have e1 : ms = s.most := h.rel.most.symm
 have e2 : ro = s.room := h.rel.room.symm
 have e3 : li = s.life := h.rel.life.symm
 have e4 : cl = s.now := h.rel.now.symm
 have hl : lenG L = s.by_ := by rw [lenG_dg]; exact (h.rel.bytes ho).symm
 have o1 := ho.most
 have o2 := ho.room
 have o3 := ho.life
 have o4 := ho.now
 have o5 := ho.bytes
 refine (rput_any rb ms ro li cl ga gc L p wr h.d hp (by omega) (by omega) (by omega) (by omega) (fun g hg => h.rel.each _ (List.mem_map.2 ⟨g, hg, rfl⟩)) (h.rel.keys ho)).mono ?_
 rintro e w' ⟨ga', gc', L', q, xa, xc, da, dc, er, rfl, hU, hput, hx, hxn, hd, hdn, hb, hnew⟩
 obtain ⟨r1, r2⟩ := put_rel h.rel ho p.p
 rw [hput] at r1 r2
 simp only at r1 r2
 have eq : (putF s p.p).2.1 = q := congrArg Prod.fst r2
 have ee : (putF s p.p).2.2 = er := congrArg Prod.snd r2
 rw [eq, ee]
 have hF : ∀ k, (k = rb ∨ ∃ x, ga = some x ∧ x.block = k) → DocB rb ga L k ∧ B ≤ k := fun k hk => by
  have : DocB rb ga L k := by
   rcases hk with hk | ⟨x, hx, hk⟩
   ·exact .inl hk
   ·exact .inr (.inl ⟨x, hx, hk⟩)
  exact ⟨this, h.low k this⟩
 refine ⟨ga', gc', L', xa, xc, da, dc, rfl, ⟨h.p.grow hb (fun k hk => ⟨.inl (hF k hk).1, (hF k hk).2⟩) (fun k hk => by
  rcases hk with hk | hk
  ·rcases hnew k hk with x | x
   ·exact .inl (.inl x)
   ·exact .inr x
  ·exact .inl (.inr hk)) (fun k hk => by
  rcases hk with hk | hk
  ·exact hU.lows k hk
  ·exact Nat.lt_of_lt_of_le (h.p.lt k (.inr hk)) hb.size), hU, r1, fun b hd => ?_⟩, hx, hd, ⟨hb.os, hb.tape, hb.output, hb.size, fun k hk hn => hb.block k hk (fun hf => hn (hF k hf).1)⟩⟩
 rcases hnew b hd with x | x
 ·exact h.low b x
 ·exact Nat.le_trans h.p.le x
theorem OwnG.set_far {w : World} {B g i : Nat} {a : Option Addr} {c : Nat} {l : List DgIn} {v : Value} (h : OwnG w B a c l) (hn : ∀ x, a = some x → x.block ≠ g) : OwnG (w.setCell ⟨g, i, none⟩ v) B a c l := by
 obtain ⟨h1, h2⟩ := h
 refine ⟨h1, ?_⟩
 rcases h2 with h2 | ⟨g', cap, cur, h3, h4, h5, h6⟩
 ·exact .inl h2
 ·refine .inr ⟨g', cap, cur, h3, h4, ?_, h6⟩
  simp only [Value.slice.injEq] at h3
  have := hn _ h3.1
  exact (Below.heap_setCell _ _ _ _ this).trans h5
set_option maxRecDepth 100000 in
set_option maxHeartbeats 8000000 in
theorem rtick_own (tb : Nat) (mo ro li cl : Int) (ga : Option Addr) (gc : Nat) (L : List DgIn) (now : Int) (w : World) (h : DocT w tb mo ro li cl ga gc L) :
  Calls Try.prog 16 #[.pointer (some ⟨tb, 0, none⟩), .int .i64 now] w fun e w' =>
   if now < cl ∨ now > 4611684918915760128 then e = .returned (.int .i64 25) ∧ w' = w
   else ∃ ga' gc', e = .returned (.int .i64 0) ∧ DocT w' tb mo ro li now ga' gc' (keptL now L) ∧ But (fun b => b = tb) w w' ∧ OwnG w' w.heap.size ga' gc' (keptL now L) := by
 obtain ⟨t0, t1, t2, t3, t4⟩ := tab_cells h.blk
 by_cases hb1 : now < cl
 ·simp only [show (now < cl ∨ now > 4611684918915760128) = True from eq_true (.inl hb1), if_true]
  have e1 : decide (now < cl) = true := decide_eq_true hb1
  go_enter Try.func16, Try.ntmps16
  go_wp2_with fail
  go_ret
  exact ⟨rfl, rfl⟩
 have e1 : decide (now < cl) = false := decide_eq_false hb1
 by_cases hb2 : now > 4611684918915760128
 ·simp only [show (now < cl ∨ now > 4611684918915760128) = True from eq_true (.inr hb2), if_true]
  have e2 : decide (now > 4611684918915760128) = true := decide_eq_true hb2
  replace hb1 := Int.not_lt.1 hb1
  go_enter Try.func16, Try.ntmps16
  go_wp2_with fail
  go_ret
  exact ⟨rfl, rfl⟩
 simp only [show (now < cl ∨ now > 4611684918915760128) = False from eq_false (by omega), if_false]
 have e2 : decide (now > 4611684918915760128) = false := decide_eq_false hb2
 replace hb1 := Int.not_lt.1 hb1
 replace hb2 := Int.not_lt.1 hb2
 have hfz := h.blk.frozen 3
 obtain ⟨W1, hW1⟩ : ∃ W1, w.setCell ⟨tb, 3, none⟩ (.int .i64 now) = W1 := ⟨_, rfl⟩
 have hblk : Blk W1 tb 31 (tabV mo ro li now ga L.length gc) := by
  rw [← hW1]
  exact h.blk.put 3 (.int .i64 now)
 have HL : Hid (RowG W1 ga L) := by
  rw [← hW1]
  exact h.row.far h.far h.each
 have hbut : But (fun b => b = tb) w W1 := by
  rw [← hW1]
  exact (But.refl (fun b => b = tb) _).setCell tb 3 (.inl rfl) _
 have HE : Hid (∀ g ∈ L, FarD tb g) := h.each
 have hfew := h.few
 obtain ⟨P, HP⟩ : ∃ P : World → Prop, Hid (∀ w', P w' ↔ ∃ ga' gc', DocT w' tb mo ro li now ga' gc' (keptL now L) ∧ But (fun b => b = tb) w w' ∧ OwnG w' w.heap.size ga' gc' (keptL now L)) := ⟨_, fun _ => Iff.rfl⟩
 refine Calls.mono (R := fun e w' => e = .returned (.int .i64 0) ∧ P w') ?_ (by
  rintro e w' ⟨he, hp⟩
  obtain ⟨a', c', h1, h2, h3⟩ := (HP.out w').1 hp
  exact ⟨a', c', he, h1, h2, h3⟩)
 obtain ⟨N, hN⟩ : ∃ N, L.length = N := ⟨_, rfl⟩
 have HN : Hid (L.length = N) := hN
 have hblk' := hblk
 rw [hN] at hblk' hfew t4
 obtain ⟨_, _, _, u3, u4⟩ := tab_cells hblk'
 have HSI : Hid (∀ g : DgIn, (Try.prog.info? 79).map (·.size) = some g.v.size) := info_g
 have htb := hblk.lt
 clear hN h t0 t1 t2 hblk
 have HBL : Hid (Blk W1 tb 31 (tabV mo ro li now ga N gc)) := hblk'
 have HBU : Hid (But (fun b => b = tb) w W1) := hbut
 clear hblk' hbut
 go_enter Try.func16, Try.ntmps16
 go_wp2_with fail
 clear hW1 t3 t4 hfz
 go_loopw [5, 6] (fun s5 i wr => ∃ (k : Nat) (sa : Option Addr) (sc : Nat), k ≤ N ∧ i = .int .i64 k ∧ s5 = .slice sa (keptL now (L.take k)).length sc ∧ Hid (OwnG wr W1.heap.size sa sc (keptL now (L.take k))) ∧ Below W1.heap.size W1 wr) (fun _ i _ => N - (intOf i).toNat)
 case atStart => exact ⟨0, none, 0, Nat.zero_le _, rfl, rfl, OwnG.nil _ _, Below.refl _ _⟩
 case round =>
  obtain ⟨k, sa, sc, hk, rfl, rfl, HO, bw⟩ := hrel
  have v4 := kept bw u4
  have hml : (keptL now (L.take k)).length ≤ N := by
   unfold keptL
   refine Nat.le_trans (List.length_filter_le _ _) ?_
   rw [List.length_take, HN.out]
   omega
  by_cases hlt : k < N
  ·have ik : (k : Int) < (N : Int) := by omega
   have ik0 : (0 : Int) ≤ (k : Int) := by omega
   obtain ⟨g, hg⟩ : ∃ g, L[k]? = some g := ⟨_, List.getElem?_eq_getElem (by rw [HN.out]; exact hlt)⟩
   obtain ⟨b, off, hga, hc⟩ := (HL.out.low bw).cells k g hg
   have c9 := hc.2 9 (.int .i64 g.ends) rfl
   have hst := kept_take now L k g hg
   have HST : Hid (keptL now (L.take (k + 1)) = if now < g.ends then keptL now (L.take k) ++ [g] else keptL now (L.take k)) := hst
   obtain ⟨xs, hxs⟩ : ∃ xs, keptL now (L.take k) = xs := ⟨_, rfl⟩
   rw [hxs] at HO HST hml ⊢
   have hs1 := HSI.out g
   subst hga
   clear hst hxs hg
   by_cases hx : now < g.ends
   ·have ex : decide (g.ends > now) = true := decide_eq_true hx
    have E : Hid (keptL now (L.take (k + 1)) = xs ++ [g]) := by show _ = _; rw [HST.out, if_pos hx]
    have ho : OwnG (wr.alloc (.cells g.v 79)) W1.heap.size sa sc xs := HO.out.below (bel_nw rfl)
    have hcell : CellsAt (wr.alloc (.cells g.v 79)) wr.heap.size 0 g.v := (blk_new wr g.v 79).at_
    have hbase : W1.heap.size ≤ (wr.alloc (.cells g.v 79)).heap.size := by
     have := bw.size
     rw [World.size_alloc]
     omega
    have bal : Below W1.heap.size W1 (wr.alloc (.cells g.v 79)) := bw.alloc bw.size _
    go_wp2_with (first
     | (refine wpList_load_at rfl _ _ rfl b (off + k * 11) (by rfl) _ hc Try.underlying79 hs1 ?_)
     | (at_builtin; refine wpList_appG _ rfl _ _ rfl W1.heap.size sa sc xs rfl ho wr.heap.size 1 g rfl hcell (by omega) hbase ?_))
    intro gg c' W6 ok6 b6
    have bw6 : Below W1.heap.size W1 W6 := bal.trans b6
    have HS7 : Hid (OwnG W6 W1.heap.size (some ⟨gg, 0, none⟩) c' (xs ++ [g])) := ok6
    clear ok6 b6 bal ho hcell hbase hc hs1 c9 bw HO v4
    go_wp2_with fail
    refine ⟨⟨k + 1, some ⟨gg, 0, none⟩, c', by omega, by go_num, by rw [E.out]; simp, by rw [E.out]; exact HS7, bw6⟩, by simp [intOf]; omega⟩
   ·have ex : decide (g.ends > now) = false := decide_eq_false hx
    have E : Hid (keptL now (L.take (k + 1)) = xs) := by show _ = _; rw [HST.out, if_neg hx]
    replace hx := Int.not_lt.1 hx
    go_wp2_with fail
    refine ⟨⟨k + 1, sa, sc, by omega, by go_num, by rw [E.out], by rw [E.out]; exact HO, bw⟩, by simp [intOf]; omega⟩
  ·have ik : ¬ (k : Int) < (N : Int) := by omega
   have e : k = N := by omega
   subst e
   have hT : L.take k = L := by rw [← HN.out]; exact List.take_length
   rw [hT] at HO hml ⊢
   have hblkr : Blk wr tb 31 (tabV mo ro li now ga k gc) := HBL.out.below bw htb
   have hfz := hblkr.frozen 4
   have fin : Hid (P (wr.setCell ⟨tb, 4, none⟩ (.slice sa (keptL now L).length sc))) := by
    refine (HP.out _).2 ⟨sa, sc, ⟨hblkr.put 4 _, ?_, ?_, ?_, by omega⟩, ?_, ?_⟩
    ·refine RowG.far (HO.out.row fun g hg => ?_) ?_ ?_
     ·exact ((HL.out.low bw)).each g (List.mem_filter.1 hg).1
     ·intro x hx
      have := HO.out.lt x hx
      omega
     ·exact fun g hg => HE.out g (List.mem_filter.1 hg).1
    ·intro x hx
     have := HO.out.lt x hx
     omega
    ·exact fun g hg => HE.out g (List.mem_filter.1 hg).1
    ·exact (HBU.out.below bw).setCell tb 4 (.inl rfl) _
    ·exact (HO.out.set_far (fun x hx => by have := HO.out.lt x hx; omega)).le HBU.out.size
   clear hblkr HO
   generalize keptL now L = KL at *
   go_wp2_with fail
   go_ret
   exact ⟨rfl, fin.out⟩
/-- The document's Tick behind the program's. -/
theorem Half.tick {B : Nat} {E : Nat → Prop} {w0 wr : World} {tb mb rb : Nat} {s : Fs} {ms ro li cl now : Int} {ga : Option Addr} {gc : Nat} {L : List DgIn} (h : Half B E w0 wr tb mb rb s (tickF s now).1 ms ro li cl ga gc L) :
  Calls Try.prog 16 #[.pointer (some ⟨rb, 0, none⟩), .int .i64 now] wr fun e w' => ∃ (cl' : Int) (ga' : Option Addr) (gc' : Nat) (L' : List DgIn), e = .returned (.int .i64 (tickF s now).2) ∧ Both B E w0 w' tb mb rb (tickF s now).1 ms ro li cl' ga' gc' L' ∧ But (fun b => DocB rb ga L b) wr w' := by
 obtain ⟨r1, r2⟩ := tick_rel h.rel h.ok now
 refine (rtick_own rb ms ro li cl ga gc L now wr h.d.t).mono ?_
 intro e w' he
 by_cases hc : now < cl ∨ now > 4611684918915760128
 ·rw [if_pos hc] at he
  obtain ⟨rfl, rfl⟩ := he
  rw [tick_no_dg ms ro li cl now L hc] at r1 r2
  refine ⟨cl, ga, gc, L, by rw [r2], ⟨h.p, h.d, r1, h.low⟩, But.refl _ _⟩
 ·rw [if_neg hc] at he
  obtain ⟨ga', gc', rfl, hT, hb, hO⟩ := he
  rw [tick_dg ms ro li cl now L hc] at r1 r2
  have hk : ∀ g ∈ keptL now L, g ∈ L := fun g hg => (List.mem_filter.1 hg).1
  have hlt : ∀ x, ga' = some x → x.block < w'.heap.size ∧ ∀ i, w'.frozen? ⟨x.block, i, none⟩ = false := fun x hx => by
   obtain ⟨_, hh⟩ := hO
   rcases hh with ⟨e, _⟩ | ⟨g', cap, cur, e, _, hb', _⟩
   ·simp only [Value.slice.injEq] at e
    rw [e.1] at hx
    cases hx
   ·simp only [Value.slice.injEq] at e
    rw [e.1] at hx
    cases hx
    exact ⟨(Array.getElem?_eq_some_iff.1 hb').1, fun i => Blk.frozen (t := 79) (cs := cur) hb' i⟩
  have hU : DocU w' rb ms ro li now ga' gc' (keptL now L) := ⟨hT, hlt, fun g hg => (h.d.low g (hk g hg)).mono fun b hb' => ⟨Nat.lt_of_lt_of_le hb'.1 hb.size, hb'.2.1, fun x hx => by have := hO.lt x hx; omega⟩, fun g hg => h.d.nm g (hk g hg)⟩
  have hnew : ∀ k, DocB rb ga' (keptL now L) k → DocB rb ga L k ∨ wr.heap.size ≤ k := by
   rintro k (e | ⟨x, hx, rfl⟩ | ⟨g, hg, hn⟩)
   ·exact .inl (.inl e)
   ·exact .inr (hO.lt x hx)
   ·exact .inl (.inr (.inr ⟨g, hk g hg, hn⟩))
  have hF : ∀ k, k = rb → DocB rb ga L k ∧ B ≤ k := fun k hk' => ⟨.inl hk', h.low k (.inl hk')⟩
  refine ⟨now, ga', gc', keptL now L, by rw [r2], ⟨h.p.grow hb (fun k hk => ⟨.inl (hF k hk).1, (hF k hk).2⟩) (fun k hk => by
   rcases hk with hk | hk
   ·rcases hnew k hk with x | x
    ·exact .inl (.inl x)
    ·exact .inr x
   ·exact .inl (.inr hk)) (fun k hk => by
   rcases hk with hk | hk
   ·exact hU.lows k hk
   ·exact Nat.lt_of_lt_of_le (h.p.lt k (.inr hk)) hb.size), hU, r1, fun b hd => ?_⟩, ⟨hb.os, hb.tape, hb.output, hb.size, fun k hk' hn => hb.block k hk' (fun hf => hn (hF k hf).1)⟩⟩
  rcases hnew b hd with x | x
  ·exact h.low b x
  ·exact Nat.le_trans h.p.le x
set_option maxRecDepth 100000 in
set_option maxHeartbeats 4000000 in
theorem same_ip6 (f sf sh sl df dh dl pr ho : Int) (fg : Bool) (id of : Int) (mo : Bool) (xa : Option Addr) (xc : Nat) (ya : Option Addr) (yc : Nat) (E : List Int) (a : Option Addr) (c : Nat) (b : Option Addr) (d : Nat) (l : List Int) (w : World) (ha : Row w a l) (hb : Row w b l) (hx : RowI w xa E) (hy : RowI w ya E) :
  Calls Try.prog 19 #[.agg #[.int .i64 f, .int .i64 sf, .int .u64 sh, .int .u64 sl, .int .i64 df, .int .u64 dh, .int .u64 dl, .int .i64 pr, .int .i64 ho, .bool fg, .int .u32 id, .int .i64 of, .bool mo, .slice xa E.length xc, .slice a l.length c], .agg #[.int .i64 f, .int .i64 sf, .int .u64 sh, .int .u64 sl, .int .i64 df, .int .u64 dh, .int .u64 dl, .int .i64 pr, .int .i64 ho, .bool fg, .int .u32 id, .int .i64 of, .bool mo, .slice ya E.length yc, .slice b l.length d]] w fun e w' => e = .returned (.bool true) ∧ Below w.heap.size w w' := by
 obtain ⟨W1, hW1⟩ : ∃ W1, (w.alloc (.cells #[.int .i64 f, .int .i64 sf, .int .u64 sh, .int .u64 sl, .int .i64 df, .int .u64 dh, .int .u64 dl, .int .i64 pr, .int .i64 ho, .bool fg, .int .u32 id, .int .i64 of, .bool mo, .slice xa E.length xc, .slice a l.length c] 42)).alloc (.cells #[.int .i64 f, .int .i64 sf, .int .u64 sh, .int .u64 sl, .int .i64 df, .int .u64 dh, .int .u64 dl, .int .i64 pr, .int .i64 ho, .bool fg, .int .u32 id, .int .i64 of, .bool mo, .slice ya E.length yc, .slice b l.length d] 42) = W1 := ⟨_, rfl⟩
 have bq : Below (w.alloc (.cells #[.int .i64 f, .int .i64 sf, .int .u64 sh, .int .u64 sl, .int .i64 df, .int .u64 dh, .int .u64 dl, .int .i64 pr, .int .i64 ho, .bool fg, .int .u32 id, .int .i64 of, .bool mo, .slice xa E.length xc, .slice a l.length c] 42)).heap.size (w.alloc (.cells #[.int .i64 f, .int .i64 sf, .int .u64 sh, .int .u64 sl, .int .i64 df, .int .u64 dh, .int .u64 dl, .int .i64 pr, .int .i64 ho, .bool fg, .int .u32 id, .int .i64 of, .bool mo, .slice xa E.length xc, .slice a l.length c] 42)) W1 := by rw [← hW1]; exact (Below.refl _ _).alloc (Nat.le_refl _) _
 have BB : Hid (Below w.heap.size w W1) := ((Below.refl _ _).alloc (Nat.le_refl _) _).trans (bq.mono (by simp))
 have sP : SIp W1 w.heap.size (.int .i64 f) (.int .i64 sf) (.int .u64 sh) (.int .u64 sl) (.int .i64 df) (.int .u64 dh) (.int .u64 dl) (.int .i64 pr) (.int .i64 ho) (.bool fg) (.int .u32 id) (.int .i64 of) (.bool mo) (.slice xa E.length xc) (.slice a l.length c) := (sIp_new w _ _ _ _ _ _ _ _ _ _ _ _ _ _ _).below (by simp) bq
 have sQ : SIp W1 (w.heap.size + 1) (.int .i64 f) (.int .i64 sf) (.int .u64 sh) (.int .u64 sl) (.int .i64 df) (.int .u64 dh) (.int .u64 dl) (.int .i64 pr) (.int .i64 ho) (.bool fg) (.int .u32 id) (.int .i64 of) (.bool mo) (.slice ya E.length yc) (.slice b l.length d) := by
  have := sIp_new (w.alloc (.cells #[.int .i64 f, .int .i64 sf, .int .u64 sh, .int .u64 sl, .int .i64 df, .int .u64 dh, .int .u64 dl, .int .i64 pr, .int .i64 ho, .bool fg, .int .u32 id, .int .i64 of, .bool mo, .slice xa E.length xc, .slice a l.length c] 42)) (.int .i64 f) (.int .i64 sf) (.int .u64 sh) (.int .u64 sl) (.int .i64 df) (.int .u64 dh) (.int .u64 dl) (.int .i64 pr) (.int .i64 ho) (.bool fg) (.int .u32 id) (.int .i64 of) (.bool mo) (.slice ya E.length yc) (.slice b l.length d)
  rw [hW1] at this
  simpa using this
 have lt1 : w.heap.size + 1 < W1.heap.size := World.block_lt_of_cell? W1 _ sQ.c0
 have HA : Hid _ := ha.below BB.out
 have HB : Hid _ := hb.below BB.out
 have HX : Hid _ := hx.below BB.out
 have HY : Hid _ := hy.below BB.out
 obtain ⟨N, hN⟩ : ∃ N, E.length = N := ⟨_, rfl⟩
 have HN : Hid (E.length = N) := hN
 have hs : N ≤ 17592186044416 := by rw [← hN]; exact hx.small
 rw [hN] at sP sQ hW1 ⊢
 have HP : Hid _ := sP
 have HQ : Hid _ := sQ
 have HW1 : Hid (_ = W1) := hW1
 clear ha hb hx hy bq hN
 obtain ⟨p0, p1, p2, p3, p4, p5, p6, p7, p8, p9, p10, p11, p12, p13, p14⟩ := sP
 obtain ⟨q0, q1, q2, q3, q4, q5, q6, q7, q8, q9, q10, q11, q12, q13, q14⟩ := sQ
 go_enter Try.func19, Try.ntmps19
 go_wp2
 go_loopw [5] (fun i w' => ∃ (k m : Nat), k ≤ N ∧ i = .int .i64 k ∧ w' = W1.drewN m) (fun i _ => N - (intOf i).toNat)
 case atStart => exact ⟨0, 0, Nat.zero_le _, rfl, rfl⟩
 case round =>
  obtain ⟨k, m, hk, rfl, rfl⟩ := hrel
  clear p0 p1 p2 p3 p4 p5 p6 p7 p8 p9 p10 p11 p12 p13 p14 q0 q1 q2 q3 q4 q5 q6 q7 q8 q9 q10 q11 q12 q13 q14 hW1
  have bm : Below W1.heap.size W1 (W1.drewN m) := below_drewN (Below.refl _ _) m
  obtain ⟨p0, p1, p2, p3, p4, p5, p6, p7, p8, p9, p10, p11, p12, p13, p14⟩ := HP.out.below (Nat.lt_of_succ_lt lt1) bm
  obtain ⟨q0, q1, q2, q3, q4, q5, q6, q7, q8, q9, q10, q11, q12, q13, q14⟩ := HQ.out.below lt1 bm
  by_cases hlt : k < N
  ·obtain ⟨b1, off, rfl, hcl⟩ := (HX.out.drewN m).cells (by have := HN.out; omega)
   obtain ⟨b2, off', rfl, hcl'⟩ := (HY.out.drewN m).cells (by have := HN.out; omega)
   have c0 := hcl k (by have := HN.out; omega)
   have c1 := hcl' k (by have := HN.out; omega)
   have hlk : (k : Int) < (N : Int) := by omega
   obtain ⟨W, hW⟩ : ∃ W, W1.drewN m = W := ⟨_, rfl⟩
   rw [hW] at p0 p1 p2 p3 p4 p5 p6 p7 p8 p9 p10 p11 p12 p13 p14 q0 q1 q2 q3 q4 q5 q6 q7 q8 q9 q10 q11 q12 q13 q14 c0 c1 ⊢
   have HW : Hid (W1.drewN m = W) := hW
   clear hcl hcl' hW bm
   generalize E.getD k 0 = x at *
   have hxx : (x != x) = false := by simp
   go_wp2
   go_quiet (fail)
   go_wp2
   exact ⟨⟨k + 1, m + nq, by omega, int_eq (by omega), by rw [← HW.out]; exact drewN_add W1 m nq⟩, by simp [intOf]; omega⟩
  ·have hlk : ¬ (k : Int) < (N : Int) := by omega
   have KK : Hid _ := same_any a b c d l (W1.drewN m) (HA.out.below bm) (HB.out.below bm)
   have BM : Hid (Below w.heap.size w (W1.drewN m)) := BB.out.trans (bm.mono BB.out.size)
   generalize W1.drewN m = W at *
   clear bm
   go_wp2_with fail
   refine Calls.mono KK.out ?_
   rintro e w' ⟨rfl, rfl⟩
   go_wp2
   go_ret
   exact ⟨rfl, BM.out⟩
end Go.Proofs.Ytkeeidfpgfdldaa
