/- Texts joined: FiH Arg9 -/
import Derived.Test.YtbghilihccaaaaaTwz29
import Derived.Maps.RangeWalk
import Derived.Deep.Slices
import Derived.ProofKit
import Derived.OpenShut
import Derived.Deep.Strs
import Derived.ChangeSame
import Derived.ChangeArms
namespace Go.Proofs.Ytbghilihccaaaaa
open Go.RowKit
set_option linter.unusedVariables false
set_option linter.unusedSimpArgs false
theorem put_any (tb mb : Nat) (s : Fs) (G : List (Lit × Gm)) (p : Pkt) (xa : Option Addr) (xc : Nat) (da : Option Addr) (dc : Nat) (w : World) (T : TabG w tb mb s G) (hp : PktOk p)
    (hdat : Row w da p.dat) (hnil : da = none → dc = 0) (hx : RowI w xa p.X) (hxn : xa = none → xc = 0) :
    Calls Try.prog 17 #[.pointer (some ⟨tb, 0, none⟩), .agg (pkV p xa xc da dc)] w fun e w' => ∃ RV c, e = .returned (.tuple #[.agg RV, .int .i64 c]) ∧ TakeAt tb mb G (putF s p) w RV c w' := by
  cases hf : p.fg
  · exact put_plain tb mb s G p xa xc da dc w T hf hdat hnil hx hxn
  · exact put_frag tb mb s G p xa xc da dc w T hp hf hdat hnil hx hxn
/-- May a table be made with these bounds? -/
def capsOk (gr by_ lf : Int) : Prop := 0 ≤ gr ∧ gr ≤ 256 ∧ 0 ≤ by_ ∧ by_ ≤ 1048576 ∧ 1 ≤ lf ∧ lf ≤ 1099511627776
abbrev fs0 (gr by_ lf : Int) : Fs := ⟨gr, by_, lf, 0, 0, []⟩
theorem fs0_ok {gr by_ lf : Int} (h : capsOk gr by_ lf) : FsOk (fs0 gr by_ lf) := by
  obtain ⟨h1, h2, h3, h4, h5, h6⟩ := h
  exact ⟨⟨h1, h2⟩, ⟨h3, h4⟩, ⟨h5, h6⟩, by simp, rfl, h3, by simpa using h1, List.Pairwise.nil, by simp, by simp⟩
theorem new_yes (gr by_ lf : Int) (w : World) (h : capsOk gr by_ lf) :
    Calls Try.prog 12 #[.int .i64 gr, .int .i64 by_, .int .i64 lf] w fun e w' => ∃ tb mb, e = .returned (.tuple #[.pointer (some ⟨tb, 0, none⟩), .int .i64 0]) ∧ TabG w' tb mb (fs0 gr by_ lf) [] ∧ w.heap.size ≤ tb ∧ w.heap.size ≤ mb ∧ Below w.heap.size w w' := by
  have h' := h
  obtain ⟨h1, h2, h3, h4, h5, h6⟩ := h
  refine (new_y gr by_ lf w (by omega) (by omega) (by omega) (by omega) (by omega) (by omega)).mono ?_
  rintro e w' ⟨rfl, rfl⟩
  have e1 : (w.alloc (.map #[] 0)).heap.size = w.heap.size + 1 := by simp
  refine ⟨w.heap.size + 1, w.heap.size, rfl, ⟨rfl, ?_, ?_, by omega, fs0_ok h', by simp, List.Pairwise.nil⟩, by omega, Nat.le_refl _, ?_⟩
  · have := blk_new (w.alloc (.map #[] 0)) #[.bool true, .int .i64 gr, .int .i64 by_, .int .i64 lf, .int .i64 0, .int .i64 0, .map (some w.heap.size)] 64
    rw [e1] at this
    exact this
  · exact (ownsG_new w).alloc _
  · exact ((Below.refl _ _).alloc (Nat.le_refl _) _).alloc (by simp) _
theorem tbytes_any (tb mb : Nat) (s : Fs) (G : List (Lit × Gm)) (w : World) (T : TabG w tb mb s G) :
    Calls Try.prog 21 #[.pointer (some ⟨tb, 0, none⟩)] w fun e w' => e = .returned (.int .i64 s.by_) ∧ w' = w :=
  fBytes_at tb s.by_ w (T.tab.cell 0 (.bool true) rfl) (T.tab.cell 5 (.int .i64 s.by_) rfl)
theorem tnow_any (tb mb : Nat) (s : Fs) (G : List (Lit × Gm)) (w : World) (T : TabG w tb mb s G) :
    Calls Try.prog 23 #[.pointer (some ⟨tb, 0, none⟩)] w fun e w' => e = .returned (.int .i64 s.now) ∧ w' = w :=
  fNow_at tb s.now w (T.tab.cell 0 (.bool true) rfl) (T.tab.cell 4 (.int .i64 s.now) rfl)
/-- A table whose blocks lie from B on, in a world that is w0 below B. -/
structure TabB (B : Nat) (w0 wr : World) (tb mb : Nat) (s : Fs) : Prop where
  ex : ∃ G, TabG wr tb mb s G ∧ ∀ k, foot tb mb G k → B ≤ k
  bel : Below B w0 wr
  le : B ≤ wr.heap.size
theorem TabB.ok {B : Nat} {w0 wr : World} {tb mb : Nat} {s : Fs} (h : TabB B w0 wr tb mb s) : FsOk s := by obtain ⟨G, T, _⟩ := h.ex; exact T.ok
theorem TabB.below {B : Nat} {w0 wr w' : World} {tb mb : Nat} {s : Fs} (h : TabB B w0 wr tb mb s) (b : Below wr.heap.size wr w') : TabB B w0 w' tb mb s := by
  obtain ⟨G, T, hf⟩ := h.ex
  exact ⟨⟨G, T.below b, hf⟩, h.bel.trans (b.mono h.le), Nat.le_trans h.le b.size⟩
theorem TabB.put {B : Nat} {w0 wr : World} {tb mb : Nat} {s : Fs} (h : TabB B w0 wr tb mb s) (p : Pkt) (xa : Option Addr) (xc : Nat) (da : Option Addr) (dc : Nat) (hp : PktOk p)
    (hdat : Row wr da p.dat) (hnil : da = none → dc = 0) (hx : RowI wr xa p.X) (hxn : xa = none → xc = 0) :
    Calls Try.prog 17 #[.pointer (some ⟨tb, 0, none⟩), .agg (pkV p xa xc da dc)] wr fun e w' => ∃ xa' xc' da' dc', e = .returned (.tuple #[.agg (pkV (putF s p).2.1 xa' xc' da' dc'), .int .i64 (putF s p).2.2]) ∧ TabB B w0 w' tb mb (putF s p).1 ∧ RowI w' xa' (putF s p).2.1.X ∧ Row w' da' (putF s p).2.1.dat ∧ (∀ x, da' = some x → wr.heap.size ≤ x.block) ∧ (∀ x, xa' = some x → B ≤ x.block) ∧ Below B wr w' := by
  obtain ⟨G, T, hf⟩ := h.ex
  refine (put_any tb mb s G p xa xc da dc wr T hp hdat hnil hx hxn).mono ?_
  rintro e w' ⟨RV, c, rfl, rfl, G', T', hf', hb, xa', xc', da', dc', rfl, r1, r2, r3, r4⟩
  have hl := h.le
  have b : Below B wr w' := hb.to_below h.le (fun k hk hF => by have := hf k hF; omega)
  refine ⟨xa', xc', da', dc', rfl, ⟨⟨G', T', fun k hk => ?_⟩, h.bel.trans b, Nat.le_trans hl b.size⟩, r1, r2, r4, fun x hx => ?_, b⟩
  · rcases hf' k hk with x | x
    · exact hf k x
    · omega
  · rcases r3 x hx with y | y
    · omega
    · exact hf _ y
theorem TabB.bytes {B : Nat} {w0 wr : World} {tb mb : Nat} {s : Fs} (h : TabB B w0 wr tb mb s) : Calls Try.prog 21 #[.pointer (some ⟨tb, 0, none⟩)] wr fun e w' => e = .returned (.int .i64 s.by_) ∧ w' = wr := by
  obtain ⟨G, T, hf⟩ := h.ex
  exact tbytes_any tb mb s G wr T
theorem TabB.now {B : Nat} {w0 wr : World} {tb mb : Nat} {s : Fs} (h : TabB B w0 wr tb mb s) : Calls Try.prog 23 #[.pointer (some ⟨tb, 0, none⟩)] wr fun e w' => e = .returned (.int .i64 s.now) ∧ w' = wr := by
  obtain ⟨G, T, hf⟩ := h.ex
  exact tnow_any tb mb s G wr T
theorem tabB_new (gr by_ lf : Int) (w : World) (h : capsOk gr by_ lf) :
    Calls Try.prog 12 #[.int .i64 gr, .int .i64 by_, .int .i64 lf] w fun e w' => ∃ tb mb, e = .returned (.tuple #[.pointer (some ⟨tb, 0, none⟩), .int .i64 0]) ∧ TabB w.heap.size w w' tb mb (fs0 gr by_ lf) := by
  refine (new_yes gr by_ lf w h).mono ?_
  rintro e w' ⟨tb, mb, rfl, T, h1, h2, b⟩
  refine ⟨tb, mb, rfl, ⟨⟨[], T, fun k hk => ?_⟩, b, b.size⟩⟩
  rcases hk with rfl | rfl | ⟨p, hp, _⟩
  · exact h1
  · exact h2
  · cases hp
theorem putF_caps (s : Fs) (p : Pkt) : (putF s p).1.most = s.most ∧ (putF s p).1.room = s.room ∧ (putF s p).1.life = s.life ∧ (putF s p).1.now = s.now := by
  unfold putF
  split
  · exact ⟨rfl, rfl, rfl, rfl⟩
  split
  · exact ⟨rfl, rfl, rfl, rfl⟩
  unfold takeF
  split
  · exact ⟨rfl, rfl, rfl, rfl⟩
  split
  · exact ⟨rfl, rfl, rfl, rfl⟩
  split
  · exact ⟨rfl, rfl, rfl, rfl⟩
  split
  · exact ⟨rfl, rfl, rfl, rfl⟩
  · exact ⟨rfl, rfl, rfl, rfl⟩
end Go.Proofs.Ytbghilihccaaaaa
namespace Go.Proofs.Ytbghilihccaaaaa
open Go.RowKit Go.ChangeShapes Go.WideShapes Go.ChangeAt
set_option linter.unusedVariables false
set_option linter.unusedSimpArgs false
set_option linter.constructorNameAsVariable false
/-- These cells lie from k on in the block b. -/
def CellsAt (W : World) (b k : Nat) (sub : Array Value) : Prop := b < W.heap.size ∧ ∀ j v, sub[j]? = some v → W.cell? ⟨b, k + j, none⟩ = some v
theorem CellsAt.but {F : Nat → Prop} {w w' : World} {b k : Nat} {sub : Array Value} (h : CellsAt w b k sub) (hb : But F w w') (hn : ¬ F b) : CellsAt w' b k sub :=
  ⟨Nat.lt_of_lt_of_le h.1 hb.size, fun j v hv => hb.cell hn (h.2 j v hv)⟩
theorem CellsAt.below {w w' : World} {b k : Nat} {sub : Array Value} (h : CellsAt w b k sub) (hb : Below w.heap.size w w') : CellsAt w' b k sub :=
  h.but (But.of_below hb (fun _ => False)) (fun x => x)
theorem load_at {W : World} {g k : Nat} {ty : TypeId} {sub : Array Value} (h : CellsAt W g k sub) {fs : _} (hu : Try.prog.underlying ty = some (.struct fs)) (hi : (Try.prog.info? ty).map (·.size) = some sub.size) :
    (loadVar ty ⟨g, k, none⟩).run Try.prog W = .ok (.agg sub) W := by
  have hl : (loadCells ⟨g, k, none⟩ sub.toList.length).run Try.prog W = .ok sub.toList.toArray W :=
    run_loadCells_list (P := Try.prog) W ⟨g, k, none⟩ sub.toList (fun j v hv => by
      have hadd : (⟨g, k, none⟩ : Addr).add j = ⟨g, k + j, none⟩ := Go.WideShapes.add_plain ..
      rw [hadd]
      exact h.2 j v (by simpa using hv))
  cases hq : Try.prog.info? ty with
  | none => simp [hq] at hi
  | some i =>
    have hs' : i.size = sub.size := by simpa [hq] using hi
    have hagg : (isAgg ty).run Try.prog W = .ok true W := by
      unfold isAgg
      rw [Sem.run_bind, run_underlying hu W]
      rfl
    simp only [Array.length_toList, Array.toArray_toList] at hl
    simp [loadVar, Sem.run_bind, hagg, sizeOf, typeInfo, hq, hs', hl]
theorem wpList_load_at {ops : Array Oper} {rest : List Oper} {o : Oper} {ac : Act} {w : World} {Q : Exit → Act → World → Prop} (hgd : o.guard = none) (ty : TypeId) (p : Operand) (ho : o.op = Op.load ty p) (g k : Nat) (hp : ac.eval p = .pointer (some ⟨g, k, none⟩)) (sub : Array Value)
    (hb : CellsAt w g k sub) {fs : _} (hu : Try.prog.underlying ty = some (.struct fs)) (hi : (Try.prog.info? ty).map (·.size) = some sub.size) (h : wpList Try.prog ops Q rest (ac.put o.dst (.agg sub)) w) : wpList Try.prog ops Q (o :: rest) ac w := by
  refine wpList_plain hgd fun K hK => ?_
  have hl := load_at hb hu hi
  unfold Oper.wp
  simp [execOp, ho, hp, Instr.loadAt, Instr.sureAddr, hl, Result.andThen]
  exact hK _ _ h
/-- A packet that came in, and where its slices lie. -/
structure PkIn where
  p : Pkt
  xa : Option Addr
  xc : Nat
  da : Option Addr
  dc : Nat
abbrev PkIn.v (q : PkIn) : Array Value := pkV q.p q.xa q.xc q.da q.dc
structure PkIn.ok (W : World) (q : PkIn) : Prop where
  p : PktOk q.p
  exts : RowI W q.xa q.p.X
  xnil : q.xa = none → q.xc = 0
  data : Row W q.da q.p.dat
  dnil : q.da = none → q.dc = 0
theorem PkIn.ok.below {w w' : World} {q : PkIn} (h : q.ok w) (hb : Below w.heap.size w w') : q.ok w' := ⟨h.p, h.exts.below hb, h.xnil, h.data.below hb, h.dnil⟩
/-- A call of a script. -/
structure Ac6 where
  tk : Bool
  nw : Int
  q : PkIn
abbrev Ac6.v (a : Ac6) : Array Value := #[.bool a.tk, .int .i64 a.nw, .int .i64 a.q.p.f, .int .i64 a.q.p.s.fam, .int .u64 a.q.p.s.hi, .int .u64 a.q.p.s.lo, .int .i64 a.q.p.d.fam, .int .u64 a.q.p.d.hi, .int .u64 a.q.p.d.lo, .int .i64 a.q.p.pr, .int .i64 a.q.p.ho, .bool a.q.p.fg, .int .u32 a.q.p.id, .int .i64 a.q.p.of, .bool a.q.p.mo, .slice a.q.xa a.q.p.X.length a.q.xc, .slice a.q.da a.q.p.dat.length a.q.dc]
structure Ac6.ok (W : World) (a : Ac6) : Prop where
  now : (Lit.int .i64 a.nw).wf = true
  q : a.q.ok W
theorem Ac6.ok.below {w w' : World} {q : Ac6} (h : q.ok w) (hb : Below w.heap.size w w') : q.ok w' := ⟨h.now, h.q.below hb⟩
/-- A slice of things of n cells each, as it is read. -/
structure RowN {α : Type} (n : Nat) (v : α → Array Value) (ok : World → α → Prop) (w : World) (a : Option Addr) (l : List α) : Prop where
  each : ∀ q ∈ l, ok w q
  cells : ∀ (i : Nat) (q : α), l[i]? = some q → ∃ b off, a = some ⟨b, off, none⟩ ∧ CellsAt w b (off + i * n) (v q)
theorem RowN.below {α : Type} {n : Nat} {v : α → Array Value} {ok : World → α → Prop} (hok : ∀ {w w' : World} {q : α}, ok w q → Below w.heap.size w w' → ok w' q) {w w' : World} {a : Option Addr} {l : List α} (h : RowN n v ok w a l) (hb : Below w.heap.size w w') : RowN n v ok w' a l :=
  ⟨fun q hq => hok (h.each q hq) hb, fun i q hq => by
    obtain ⟨b, off, h1, h2⟩ := h.cells i q hq
    exact ⟨b, off, h1, h2.below hb⟩⟩
end Go.Proofs.Ytbghilihccaaaaa
