/- Texts joined: FgM FgN FgO -/
import Derived.Test.YtbghilihccaaaaaTwz13
import Derived.Test.YtbghilihccaaaaaTwz14
import Derived.DeepKeys4
namespace Go.Proofs.Ytbghilihccaaaaa
open Go.RowKit
set_option linter.unusedVariables false
set_option linter.unusedSimpArgs false
/-- The pieces' own row lies apart from what they hold. -/
structure GmA (g : Gm) : Prop where
  ps : ∀ p ∈ g.ps, ∀ x y, p.da = some x → g.pa = some y → x.block ≠ y.block
  xs : ∀ x y, g.hd.xa = some x → g.pa = some y → x.block ≠ y.block
/-- A datagram with one more piece. -/
abbrev Gm.more (g : Gm) (h : Hd) (gx cx : Nat) (p : Pc) (mo : Bool) : Gm :=
  { g with hd := h, pa := some ⟨gx, 0, none⟩, pc := cx, ps := g.ps ++ [p], size := g.size + p.data.length, reach := if g.reach < p.off + p.data.length then p.off + p.data.length else g.reach, last := g.last || !mo }
theorem pcells_more (ps : List Pc) (of : Int) (a4 : Option Addr) (c4 : Nat) (dat : List Int) : pcells (ps ++ [⟨of, a4, c4, dat⟩]) = pcells ps ++ [.int .i64 of, .slice a4 dat.length c4] := pcells_app ps ⟨of, a4, c4, dat⟩
/-- What add leaves of a datagram whose header is as it was. -/
theorem more_r {w W : World} {gg : Nat} {g : Gm} {h : Hd} {of : Int} {dat : List Int} {cs : Array Value} {gx cx : Nat} {a4 : Option Addr} {c4 : Nat} {mo : Bool}
    (A : Aft w W gg g.pa g.ps.length (pcells g.ps) of dat cs gx cx a4 c4) (he : ∀ p ∈ g.ps, Row w p.da p.data ∧ p.data.length ≤ p.dc ∧ (p.da = none → p.dc = 0)) (hx : RowI w h.xa h.X) (hfew : g.ps.length + 1 ≤ 65535)
    (hgg : ∀ p ∈ g.ps, ∀ x, p.da = some x → x.block ≠ gg) (hap : ∀ p ∈ g.ps, ∀ x y, p.da = some x → g.pa = some y → x.block ≠ y.block) (hlt : ∀ p ∈ g.ps, ∀ x, p.da = some x → x.block < w.heap.size)
    (xgg : ∀ x, h.xa = some x → x.block ≠ gg) (xap : ∀ x y, h.xa = some x → g.pa = some y → x.block ≠ y.block) (xlt : ∀ x, h.xa = some x → x.block < w.heap.size) :
    GmR W (g.more h gx cx ⟨of, a4, c4, dat⟩ mo) ∧ GmA (g.more h gx cx ⟨of, a4, c4, dat⟩ mo) := by
  refine ⟨⟨?_, fun p hp => ?_, ?_, ?_⟩, fun p hp x y hx' hy => ?_, fun x y hx' hy => ?_⟩
  · have := A.row
    rw [← pcells_more] at this
    simpa using this
  · rcases List.mem_append.1 hp with hp | hp
    · obtain ⟨h1, h2, h3⟩ := he p hp
      refine ⟨h1.but A.but (fun x hx' hF => ?_), h2, h3⟩
      rcases hF with hF | ⟨y, hy, hF⟩
      · exact hgg p hp x hx' hF
      · exact hap p hp x y hx' hy hF.symm
    · obtain rfl := List.mem_singleton.1 hp
      exact ⟨A.data, A.room, A.nil⟩
  · refine hx.but A.but (fun x hx' hF => ?_)
    rcases hF with hF | ⟨y, hy, hF⟩
    · exact xgg x hx' hF
    · exact xap x y hx' hy hF.symm
  · simpa using hfew
  · cases hy
    rcases List.mem_append.1 hp with hp | hp
    · rcases A.at_ with ⟨z, hz, hg⟩ | hg
      · show x.block ≠ gx
        rw [← hg]; exact hap p hp x z hx' hz
      · have := hlt p hp x hx'
        show x.block ≠ gx
        omega
    · obtain rfl := List.mem_singleton.1 hp
      exact A.apart x hx'
  · cases hy
    rcases A.at_ with ⟨z, hz, hg⟩ | hg
    · show x.block ≠ gx
      rw [← hg]; exact xap x z hx' hz
    · have := xlt x hx'
      show x.block ≠ gx
      omega
/-- Where a datagram's memory lies: below B, and not in gg. -/
structure GmB (g : Gm) (B gg : Nat) : Prop where
  ps : ∀ p ∈ g.ps, ∀ x, p.da = some x → x.block < B ∧ x.block ≠ gg
  xs : ∀ x, g.hd.xa = some x → x.block < B ∧ x.block ≠ gg
theorem add_more (gg : Nat) (g : Gm) (f sf sh sl df dh dl pr ho : Int) (fg : Bool) (id of : Int) (mo : Bool) (xa : Option Addr) (xc : Nat) (X : List Int) (da : Option Addr) (dc : Nat) (dat : List Int) (w : World) (hof : ¬ of = 0)
    (hb : Blk w gg 75 g.v) (hg : GmR w g) (ha : GmA g) (hB : GmB g w.heap.size gg) (hN : GmN g) (hfew : g.ps.length + 1 ≤ 65535) (h0 : 0 ≤ of) (h1 : of ≤ 65528) (hl : dat.length ≤ 65535) (hdat : Row w da dat) (hnil : da = none → dc = 0) :
    Calls Try.prog 46 #[.pointer (some ⟨gg, 0, none⟩), .agg #[.int .i64 f, .int .i64 sf, .int .u64 sh, .int .u64 sl, .int .i64 df, .int .u64 dh, .int .u64 dl, .int .i64 pr, .int .i64 ho, .bool fg, .int .u32 id, .int .i64 of, .bool mo, .slice xa X.length xc, .slice da dat.length dc]] w fun e w' => e = .returned (.tuple #[]) ∧ ∃ gx cx a4 c4,
      Blk w' gg 75 (g.more g.hd gx cx ⟨of, a4, c4, dat⟩ mo).v ∧ GmR w' (g.more g.hd gx cx ⟨of, a4, c4, dat⟩ mo) ∧ GmA (g.more g.hd gx cx ⟨of, a4, c4, dat⟩ mo) ∧ New w.heap.size a4 ∧ ((∃ x, g.pa = some x ∧ x.block = gx) ∨ w.heap.size ≤ gx) ∧ But (addF gg g.pa) w w' := by
  refine (add_n gg g.ps.length g.v g.pa g.pc (pcells g.ps) g.size g.reach g.last f sf sh sl df dh dl pr ho fg id of mo xa xc X da dc dat w hof hb rfl rfl rfl rfl rfl hg.row hg.few hN.size.1 hN.size.2 hN.reach.1 hN.reach.2 h0 h1 hl hdat hnil).mono ?_
  rintro e w' ⟨rfl, gx, cx, a4, c4, A⟩
  obtain ⟨r1, r2⟩ := more_r (h := g.hd) (mo := mo) A hg.each hg.exts hfew (fun p hp x hx => (hB.ps p hp x hx).2) ha.ps (fun p hp x hx => (hB.ps p hp x hx).1) (fun x hx => (hB.xs x hx).2) ha.xs (fun x hx => (hB.xs x hx).1)
  refine ⟨rfl, gx, cx, a4, c4, ?_, r1, r2, A.new, A.at_, A.but⟩
  have := A.blk
  simpa [Gm.more, Gm.v] using this
theorem add_first (gg : Nat) (g : Gm) (f sf sh sl df dh dl pr ho : Int) (fg : Bool) (id : Int) (mo : Bool) (xa : Option Addr) (xc : Nat) (X : List Int) (da : Option Addr) (dc : Nat) (dat : List Int) (w : World)
    (hb : Blk w gg 75 g.v) (hg : GmR w g) (ha : GmA g) (hB : GmB g w.heap.size gg) (hN : GmN g) (hfew : g.ps.length + 1 ≤ 65535) (hl : dat.length ≤ 65535) (hdat : Row w da dat) (hnil : da = none → dc = 0) (hoff : ∀ x, da = some x → x.block ≠ gg) (hx : RowI w xa X) (hxn : xa = none → xc = 0) :
    Calls Try.prog 46 #[.pointer (some ⟨gg, 0, none⟩), .agg #[.int .i64 f, .int .i64 sf, .int .u64 sh, .int .u64 sl, .int .i64 df, .int .u64 dh, .int .u64 dl, .int .i64 pr, .int .i64 ho, .bool fg, .int .u32 id, .int .i64 0, .bool mo, .slice xa X.length xc, .slice da dat.length dc]] w fun e w' => e = .returned (.tuple #[]) ∧ ∃ ax cx0 gx cx a4 c4,
      Blk w' gg 75 (g.more ⟨f, ⟨sf, sh, sl⟩, ⟨df, dh, dl⟩, pr, ho, ax, cx0, X⟩ gx cx ⟨0, a4, c4, dat⟩ mo).v ∧ GmR w' (g.more ⟨f, ⟨sf, sh, sl⟩, ⟨df, dh, dl⟩, pr, ho, ax, cx0, X⟩ gx cx ⟨0, a4, c4, dat⟩ mo) ∧ GmA (g.more ⟨f, ⟨sf, sh, sl⟩, ⟨df, dh, dl⟩, pr, ho, ax, cx0, X⟩ gx cx ⟨0, a4, c4, dat⟩ mo) ∧ New w.heap.size a4 ∧ (New w.heap.size ax ∧ ∀ x, ax = some x → x.block < w'.heap.size) ∧ ((∃ x, g.pa = some x ∧ x.block = gx) ∨ w.heap.size ≤ gx) ∧ But (addF gg g.pa) w w' := by
  refine (add_0 gg g.ps.length g.v g.pa g.pc (pcells g.ps) g.size g.reach g.last f sf sh sl df dh dl pr ho fg id mo xa xc X da dc dat w hb rfl rfl rfl rfl rfl hg.row hg.few hN.size.1 hN.size.2 hN.reach.1 hN.reach.2 hl hdat hnil hoff hx hxn).mono ?_
  rintro e w' ⟨rfl, Wx, ax, cx0, bx, rx, nx, lx, gx, cx, a4, c4, A⟩
  have hlt := ownsRow_lt hg.row
  have hgl := hb.lt
  have hF : ∀ p ∈ g.ps, Off (addF gg g.pa) p.da := fun p hp x hx' hF => by
    rcases hF with hF | ⟨y, hy, hF⟩
    · exact (hB.ps p hp x hx').2 hF
    · exact ha.ps p hp x y hx' hy hF.symm
  obtain ⟨r1, r2⟩ := more_r (h := ⟨f, ⟨sf, sh, sl⟩, ⟨df, dh, dl⟩, pr, ho, ax, cx0, X⟩) (mo := mo) A (fun p hp => ⟨(hg.each p hp).1.but bx (hF p hp), (hg.each p hp).2⟩) rx hfew (fun p hp x hx => (hB.ps p hp x hx).2) ha.ps (fun p hp x hx => Nat.lt_of_lt_of_le (hB.ps p hp x hx).1 bx.size) (fun x hx => by have := nx x hx; show x.block ≠ gg; omega) (fun x y hx hy => by have := nx x hx; have := hlt y hy; show x.block ≠ y.block; omega) lx
  refine ⟨rfl, ax, cx0, gx, cx, a4, c4, ?_, r1, r2, fun x hx => Nat.le_trans bx.size (A.new x hx), ⟨nx, fun x hx => Nat.lt_of_lt_of_le (lx x hx) A.but.size⟩, ?_, bx.trans A.but (fun _ _ h => h)⟩
  · have := A.blk
    simpa [Gm.more, Gm.v, setMany] using this
  · rcases A.at_ with h | h
    · exact .inl h
    · exact .inr (Nat.le_trans bx.size h)
end Go.Proofs.Ytbghilihccaaaaa
namespace Go.Proofs.Ytbghilihccaaaaa
open Go.RowKit Go.Maps Go.WideMaps
set_option linter.unusedVariables false
theorem laidF : laidOutB Try.prog = true := by kernel_rfl
theorem rowGram : (72 : TypeId) < Try.prog.types.size := of_decide_eq_true (by kernel_rfl)
theorem wideGram : (match Try.prog.underlying 72 with | some (.array _ _) | some (.struct _) => true | _ => false) = true := by kernel_rfl
set_option maxRecDepth 100000 in
theorem lawGram : WideMaps.KeyLaw Try.prog 72 := deep_law_laid laidF (m := 3) (by omega) rowGram (by kernel_rfl) wideGram
theorem keyGram : Keyed Try.prog 72 := Keyed.of_law lawGram
/-- A name's value. -/
abbrev nameV (s d : Ad) (pr id : Int) : Value := .agg #[.int .i64 s.fam, .int .u64 s.hi, .int .u64 s.lo, .int .i64 d.fam, .int .u64 d.hi, .int .u64 d.lo, .int .i64 pr, .int .u32 id]
/-- An element is read as it is. -/
def heldElem (v : Value) : Option (DataW Value × List MemPlace) := some (.held v, [])
/-- The block b is the map of at most n datagrams that reads as D. -/
abbrev OwnsG (w : World) (b n : Nat) (D : DataW Value) : Prop := w.ownsMap Try.prog 72 heldElem b n D
theorem ownsG_new (w : World) : OwnsG (w.alloc (.map #[] 0)) w.heap.size 0 (.map []) := World.ownsMap_made w _ _ _
/-- The datagram of which nothing has come. -/
abbrev zeroG : Gm := ⟨0, false, ⟨0, ⟨0, 0, 0⟩, ⟨0, 0, 0⟩, 0, 0, none, 0, []⟩, none, 0, [], 0, 0, false⟩
theorem zero_gram (w : World) : (zeroValue 75).run Try.prog w = .ok (.agg zeroG.v) w := by kernel_rfl
theorem look_G {w : World} {b n : Nat} {D : DataW Value} (h : OwnsG w b n D) {key : Value} {kl : Lit} (hk : keyOf Try.prog 72 key = some kl) :
    ∃ v, (Instr.lookup 62 (.map (some b)) key true).run Try.prog w = .ok (.tuple #[v, .bool (Maps.has D kl)]) w ∧ D.atKey kl (.held (.agg zeroG.v)) = .held v := by
  obtain ⟨v, ps, h1, h2⟩ := World.ownsMap.look_ok h keyGram Try.underlying62 (zero_gram w) (zd := .held (.agg zeroG.v)) (zp := []) rfl hk
  refine ⟨v, h1, ?_⟩
  simp only [heldElem, Option.some.injEq, Prod.mk.injEq] at h2
  exact h2.1.symm
theorem drop_G {w : World} {b n : Nat} {D : DataW Value} (h : OwnsG w b n D) {key : Value} {kl : Lit} (hk : keyOf Try.prog 72 key = some kl) (ty : TypeId) :
    ∃ w', (Builtin.delete_ #[62, 72] ty #[.map (some b), key]).run Try.prog w = .ok (.tuple #[]) w' ∧ OwnsG w' b n (D.del kl) ∧ w.mapTurned w' b :=
  World.ownsMap.drop h keyGram Try.underlying62 hk ty
theorem store_G {w : World} {b n : Nat} {D : DataW Value} (h : OwnsG w b n D) (hn : n < maxLen) {key val : Value} {kl : Lit} (hk : keyOf Try.prog 72 key = some kl) :
    ∃ w', (Instr.mapUpdate 62 (.map (some b)) key val).run Try.prog w = .ok () w' ∧ OwnsG w' b (n + 1) (D.put kl (.held val)) ∧ w.mapTurned w' b :=
  World.ownsMap.store h keyGram Try.underlying62 hn hk (d := .held val) (ps := []) rfl
theorem len_G {w : World} {b n : Nat} {D : DataW Value} (h : OwnsG w b n D) (ty : TypeId) : (Builtin.len_ #[62] ty #[.map (some b)]).run Try.prog w = .ok (.int .i64 (Maps.size D)) w :=
  World.ownsMap.len h Try.underlying62 ty
end Go.Proofs.Ytbghilihccaaaaa
namespace Go.Proofs.Ytbghilihccaaaaa
open Go.RowKit
set_option linter.unusedVariables false
set_option linter.unusedSimpArgs false
theorem cellsGram : Try.prog.cellsOf 72 = 8 := by kernel_rfl
theorem cellsAddr : Try.prog.cellsOf 37 = 3 := by kernel_rfl
theorem cellsInt : Try.prog.cellsOf 3 = 1 := by kernel_rfl
theorem cellsU64 : Try.prog.cellsOf 35 = 1 := by kernel_rfl
theorem cellsU32 : Try.prog.cellsOf 38 = 1 := by kernel_rfl
theorem lits_name (m : Nat) (sf sh sl df dh dl pr id : Int) (h1 : (Lit.int .i64 sf).wf = true) (h2 : (Lit.int .u64 sh).wf = true) (h3 : (Lit.int .u64 sl).wf = true) (h4 : (Lit.int .i64 df).wf = true) (h5 : (Lit.int .u64 dh).wf = true) (h6 : (Lit.int .u64 dl).wf = true) (h7 : (Lit.int .i64 pr).wf = true) (h8 : (Lit.int .u32 id).wf = true) :
    Try.prog.keyLits (m + 3) 72 [.int .i64 sf, .int .u64 sh, .int .u64 sl, .int .i64 df, .int .u64 dh, .int .u64 dl, .int .i64 pr, .int .u32 id] = some [.int .i64 sf, .int .u64 sh, .int .u64 sl, .int .i64 df, .int .u64 dh, .int .u64 dl, .int .i64 pr, .int .u32 id] := by
  simp [-Array.all_eq_true, -List.all_eq_true, List.all_cons, List.all_nil, Program.keyLits, Try.underlying72, Try.underlying37, Try.underlying3, Try.underlying35, Try.underlying38, cellsGram, cellsAddr, cellsInt, cellsU64, cellsU32, h1, h2, h3, h4, h5, h6, h7, h8]
/-- The key of a name. -/
theorem key_name (sf sh sl df dh dl pr id : Int) (h1 : (Lit.int .i64 sf).wf = true) (h2 : (Lit.int .u64 sh).wf = true) (h3 : (Lit.int .u64 sl).wf = true) (h4 : (Lit.int .i64 df).wf = true) (h5 : (Lit.int .u64 dh).wf = true) (h6 : (Lit.int .u64 dl).wf = true) (h7 : (Lit.int .i64 pr).wf = true) (h8 : (Lit.int .u32 id).wf = true) :
    keyOf Try.prog 72 (nameV ⟨sf, sh, sl⟩ ⟨df, dh, dl⟩ pr id) = some (.string (keyBytes [.int .i64 sf, .int .u64 sh, .int .u64 sl, .int .i64 df, .int .u64 dh, .int .u64 dl, .int .i64 pr, .int .u32 id])) := by
  have hkt : Try.prog.keyType 72 = true := by kernel_rfl
  have hsz : ∃ m, Try.prog.types.size + 1 = m + 3 := ⟨Try.prog.types.size - 2, by have : 3 ≤ Try.prog.types.size := of_decide_eq_true (by kernel_rfl); omega⟩
  obtain ⟨m, hm⟩ := hsz
  unfold keyOf
  rw [Try.underlying72]
  simp only [hkt, hm, nameV, Value.cells, Bool.true_and]
  rw [if_pos (by simp [Value.formed, Try.underlying72, cellsGram]), lits_name m sf sh sl df dh dl pr id h1 h2 h3 h4 h5 h6 h7 h8]
  rfl
end Go.Proofs.Ytbghilihccaaaaa
