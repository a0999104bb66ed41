/- Texts joined: FgM FgN FgO FgP FgQ -/
import Derived.Test.YtkeeidfpgfdldaaFpz4
import Derived.Test.YtkeeidfpgfdldaaFpz5
import Derived.DeepKeys4
namespace Go.Proofs.Ytkeeidfpgfdldaa
open Go.RowKit
set_option linter.unusedVariables false
set_option linter.unusedSimpArgs false
/-- The pieces' own row lies apart from what they hold. -/
structure GmA (g : Gm) : Prop where
 ps : ∀ p ∈ g.ps, ∀ x y, p.da = some x → g.pa = some y → x.block ≠ y.block
 xs : ∀ x y, g.hd.xa = some x → g.pa = some y → x.block ≠ y.block
/-- A datagram with one more piece. -/
abbrev Gm.more (g : Gm) (h : Hd) (gx cx : Nat) (p : Pc) (mo : Bool) : Gm :=
 { g with hd := h, pa := some ⟨gx, 0, none⟩, pc := cx, ps := g.ps ++ [p], size := g.size + p.data.length, reach := if g.reach < p.off + p.data.length then p.off + p.data.length else g.reach, last := g.last || !mo }
theorem pcells_more (ps : List Pc) (of : Int) (a4 : Option Addr) (c4 : Nat) (dat : List Int) : pcells (ps ++ [⟨of, a4, c4, dat⟩]) = pcells ps ++ [.int .i64 of, .slice a4 dat.length c4] := pcells_app ps ⟨of, a4, c4, dat⟩
/-- What add leaves of a datagram whose header is as it was. -/
theorem more_r {w W : World} {gg : Nat} {g : Gm} {h : Hd} {of : Int} {dat : List Int} {cs : Array Value} {gx cx : Nat} {a4 : Option Addr} {c4 : Nat} {mo : Bool}
  (A : Aft w W gg g.pa g.ps.length (pcells g.ps) of dat cs gx cx a4 c4) (he : ∀ p ∈ g.ps, Row w p.da p.data ∧ p.data.length ≤ p.dc ∧ (p.da = none → p.dc = 0)) (hx : RowI w h.xa h.X) (hfew : g.ps.length + 1 ≤ 65535)
  (hgg : ∀ p ∈ g.ps, ∀ x, p.da = some x → x.block ≠ gg) (hap : ∀ p ∈ g.ps, ∀ x y, p.da = some x → g.pa = some y → x.block ≠ y.block) (hlt : ∀ p ∈ g.ps, ∀ x, p.da = some x → x.block < w.heap.size)
  (xgg : ∀ x, h.xa = some x → x.block ≠ gg) (xap : ∀ x y, h.xa = some x → g.pa = some y → x.block ≠ y.block) (xlt : ∀ x, h.xa = some x → x.block < w.heap.size) :
  GmR W (g.more h gx cx ⟨of, a4, c4, dat⟩ mo) ∧ GmA (g.more h gx cx ⟨of, a4, c4, dat⟩ mo) := by
 refine ⟨⟨?_, fun p hp => ?_, ?_, ?_⟩, fun p hp x y hx' hy => ?_, fun x y hx' hy => ?_⟩
 ·have := A.row
  rw [← pcells_more] at this
  simpa using this
 ·rcases List.mem_append.1 hp with hp | hp
  ·obtain ⟨h1, h2, h3⟩ := he p hp
   refine ⟨h1.but A.but (fun x hx' hF => ?_), h2, h3⟩
   rcases hF with hF | ⟨y, hy, hF⟩
   ·exact hgg p hp x hx' hF
   ·exact hap p hp x y hx' hy hF.symm
  ·obtain rfl := List.mem_singleton.1 hp
   exact ⟨A.data, A.room, A.nil⟩
 ·refine hx.but A.but (fun x hx' hF => ?_)
  rcases hF with hF | ⟨y, hy, hF⟩
  ·exact xgg x hx' hF
  ·exact xap x y hx' hy hF.symm
 ·simpa using hfew
 ·cases hy
  rcases List.mem_append.1 hp with hp | hp
  ·rcases A.at_ with ⟨z, hz, hg⟩ | hg
   ·show x.block ≠ gx
    rw [← hg]; exact hap p hp x z hx' hz
   ·have := hlt p hp x hx'
    show x.block ≠ gx
    omega
  ·obtain rfl := List.mem_singleton.1 hp
   exact A.apart x hx'
 ·cases hy
  rcases A.at_ with ⟨z, hz, hg⟩ | hg
  ·show x.block ≠ gx
   rw [← hg]; exact xap x z hx' hz
  ·have := xlt x hx'
   show x.block ≠ gx
   omega
/-- Where a datagram's memory lies: below B, and not in gg. -/
structure GmB (g : Gm) (B gg : Nat) : Prop where
 ps : ∀ p ∈ g.ps, ∀ x, p.da = some x → x.block < B ∧ x.block ≠ gg
 xs : ∀ x, g.hd.xa = some x → x.block < B ∧ x.block ≠ gg
theorem add_more (gg : Nat) (g : Gm) (f sf sh sl df dh dl pr ho : Int) (fg : Bool) (id of : Int) (mo : Bool) (xa : Option Addr) (xc : Nat) (X : List Int) (da : Option Addr) (dc : Nat) (dat : List Int) (w : World) (hof : ¬ of = 0)
  (hb : Blk w gg 75 g.v) (hg : GmR w g) (ha : GmA g) (hB : GmB g w.heap.size gg) (hN : GmN g) (hfew : g.ps.length + 1 ≤ 65535) (h0 : 0 ≤ of) (h1 : of ≤ 65528) (hl : dat.length ≤ 65535) (hdat : Row w da dat) (hnil : da = none → dc = 0) :
  Calls Try.prog 46 #[.pointer (some ⟨gg, 0, none⟩), .agg #[.int .i64 f, .int .i64 sf, .int .u64 sh, .int .u64 sl, .int .i64 df, .int .u64 dh, .int .u64 dl, .int .i64 pr, .int .i64 ho, .bool fg, .int .u32 id, .int .i64 of, .bool mo, .slice xa X.length xc, .slice da dat.length dc]] w fun e w' => e = .returned (.tuple #[]) ∧ ∃ gx cx a4 c4,
   Blk w' gg 75 (g.more g.hd gx cx ⟨of, a4, c4, dat⟩ mo).v ∧ GmR w' (g.more g.hd gx cx ⟨of, a4, c4, dat⟩ mo) ∧ GmA (g.more g.hd gx cx ⟨of, a4, c4, dat⟩ mo) ∧ New w.heap.size a4 ∧ ((∃ x, g.pa = some x ∧ x.block = gx) ∨ w.heap.size ≤ gx) ∧ But (addF gg g.pa) w w' := by
 refine (add_n gg g.ps.length g.v g.pa g.pc (pcells g.ps) g.size g.reach g.last f sf sh sl df dh dl pr ho fg id of mo xa xc X da dc dat w hof hb rfl rfl rfl rfl rfl hg.row hg.few hN.size.1 hN.size.2 hN.reach.1 hN.reach.2 h0 h1 hl hdat hnil).mono ?_
 rintro e w' ⟨rfl, gx, cx, a4, c4, A⟩
 obtain ⟨r1, r2⟩ := more_r (h := g.hd) (mo := mo) A hg.each hg.exts hfew (fun p hp x hx => (hB.ps p hp x hx).2) ha.ps (fun p hp x hx => (hB.ps p hp x hx).1) (fun x hx => (hB.xs x hx).2) ha.xs (fun x hx => (hB.xs x hx).1)
 refine ⟨rfl, gx, cx, a4, c4, ?_, r1, r2, A.new, A.at_, A.but⟩
 have := A.blk
 simpa [Gm.more, Gm.v] using this
theorem add_first (gg : Nat) (g : Gm) (f sf sh sl df dh dl pr ho : Int) (fg : Bool) (id : Int) (mo : Bool) (xa : Option Addr) (xc : Nat) (X : List Int) (da : Option Addr) (dc : Nat) (dat : List Int) (w : World)
  (hb : Blk w gg 75 g.v) (hg : GmR w g) (ha : GmA g) (hB : GmB g w.heap.size gg) (hN : GmN g) (hfew : g.ps.length + 1 ≤ 65535) (hl : dat.length ≤ 65535) (hdat : Row w da dat) (hnil : da = none → dc = 0) (hoff : ∀ x, da = some x → x.block ≠ gg) (hx : RowI w xa X) (hxn : xa = none → xc = 0) :
  Calls Try.prog 46 #[.pointer (some ⟨gg, 0, none⟩), .agg #[.int .i64 f, .int .i64 sf, .int .u64 sh, .int .u64 sl, .int .i64 df, .int .u64 dh, .int .u64 dl, .int .i64 pr, .int .i64 ho, .bool fg, .int .u32 id, .int .i64 0, .bool mo, .slice xa X.length xc, .slice da dat.length dc]] w fun e w' => e = .returned (.tuple #[]) ∧ ∃ ax cx0 gx cx a4 c4,
   Blk w' gg 75 (g.more ⟨f, ⟨sf, sh, sl⟩, ⟨df, dh, dl⟩, pr, ho, ax, cx0, X⟩ gx cx ⟨0, a4, c4, dat⟩ mo).v ∧ GmR w' (g.more ⟨f, ⟨sf, sh, sl⟩, ⟨df, dh, dl⟩, pr, ho, ax, cx0, X⟩ gx cx ⟨0, a4, c4, dat⟩ mo) ∧ GmA (g.more ⟨f, ⟨sf, sh, sl⟩, ⟨df, dh, dl⟩, pr, ho, ax, cx0, X⟩ gx cx ⟨0, a4, c4, dat⟩ mo) ∧ New w.heap.size a4 ∧ (New w.heap.size ax ∧ ∀ x, ax = some x → x.block < w'.heap.size) ∧ ((∃ x, g.pa = some x ∧ x.block = gx) ∨ w.heap.size ≤ gx) ∧ But (addF gg g.pa) w w' := by
 refine (add_0 gg g.ps.length g.v g.pa g.pc (pcells g.ps) g.size g.reach g.last f sf sh sl df dh dl pr ho fg id mo xa xc X da dc dat w hb rfl rfl rfl rfl rfl hg.row hg.few hN.size.1 hN.size.2 hN.reach.1 hN.reach.2 hl hdat hnil hoff hx hxn).mono ?_
 rintro e w' ⟨rfl, Wx, ax, cx0, bx, rx, nx, lx, gx, cx, a4, c4, A⟩
 have hlt := ownsRow_lt hg.row
 have hgl := hb.lt
 have hF : ∀ p ∈ g.ps, Off (addF gg g.pa) p.da := fun p hp x hx' hF => by
  rcases hF with hF | ⟨y, hy, hF⟩
  ·exact (hB.ps p hp x hx').2 hF
  ·exact ha.ps p hp x y hx' hy hF.symm
 obtain ⟨r1, r2⟩ := more_r (h := ⟨f, ⟨sf, sh, sl⟩, ⟨df, dh, dl⟩, pr, ho, ax, cx0, X⟩) (mo := mo) A (fun p hp => ⟨(hg.each p hp).1.but bx (hF p hp), (hg.each p hp).2⟩) rx hfew (fun p hp x hx => (hB.ps p hp x hx).2) ha.ps (fun p hp x hx => Nat.lt_of_lt_of_le (hB.ps p hp x hx).1 bx.size) (fun x hx => by have := nx x hx; show x.block ≠ gg; omega) (fun x y hx hy => by have := nx x hx; have := hlt y hy; show x.block ≠ y.block; omega) lx
 refine ⟨rfl, ax, cx0, gx, cx, a4, c4, ?_, r1, r2, fun x hx => Nat.le_trans bx.size (A.new x hx), ⟨nx, fun x hx => Nat.lt_of_lt_of_le (lx x hx) A.but.size⟩, ?_, bx.trans A.but (fun _ _ h => h)⟩
 ·have := A.blk
  simpa [Gm.more, Gm.v, setMany] using this
 ·rcases A.at_ with h | h
  ·exact .inl h
  ·exact .inr (Nat.le_trans bx.size h)
end Go.Proofs.Ytkeeidfpgfdldaa
namespace Go.Proofs.Ytkeeidfpgfdldaa
open Go.RowKit Go.Maps Go.WideMaps
set_option linter.unusedVariables false
theorem laidF : laidOutB Try.prog = true := by kernel_rfl
theorem rowGram : (72 : TypeId) < Try.prog.types.size := of_decide_eq_true (by kernel_rfl)
theorem wideGram : (match Try.prog.underlying 72 with | some (.array _ _) | some (.struct _) => true | _ => false) = true := by kernel_rfl
set_option maxRecDepth 100000 in
theorem lawGram : WideMaps.KeyLaw Try.prog 72 := deep_law_laid laidF (m := 3) (by omega) rowGram (by kernel_rfl) wideGram
theorem keyGram : Keyed Try.prog 72 := Keyed.of_law lawGram
/-- A name's value. -/
abbrev nameV (s d : Ad) (pr id : Int) : Value := .agg #[.int .i64 s.fam, .int .u64 s.hi, .int .u64 s.lo, .int .i64 d.fam, .int .u64 d.hi, .int .u64 d.lo, .int .i64 pr, .int .u32 id]
/-- An element is read as it is. -/
def heldElem (v : Value) : Option (DataW Value × List MemPlace) := some (.held v, [])
/-- The block b is the map of at most n datagrams that reads as D. -/
abbrev OwnsG (w : World) (b n : Nat) (D : DataW Value) : Prop := w.ownsMap Try.prog 72 heldElem b n D
theorem ownsG_new (w : World) : OwnsG (w.alloc (.map #[] 0)) w.heap.size 0 (.map []) := World.ownsMap_made w _ _ _
/-- The datagram of which nothing has come. -/
abbrev zeroG : Gm := ⟨0, false, ⟨0, ⟨0, 0, 0⟩, ⟨0, 0, 0⟩, 0, 0, none, 0, []⟩, none, 0, [], 0, 0, false⟩
theorem zero_gram (w : World) : (zeroValue 75).run Try.prog w = .ok (.agg zeroG.v) w := by kernel_rfl
theorem look_G {w : World} {b n : Nat} {D : DataW Value} (h : OwnsG w b n D) {key : Value} {kl : Lit} (hk : keyOf Try.prog 72 key = some kl) :
  ∃ v, (Instr.lookup 62 (.map (some b)) key true).run Try.prog w = .ok (.tuple #[v, .bool (Maps.has D kl)]) w ∧ D.atKey kl (.held (.agg zeroG.v)) = .held v := by
 obtain ⟨v, ps, h1, h2⟩ := World.ownsMap.look_ok h keyGram Try.underlying62 (zero_gram w) (zd := .held (.agg zeroG.v)) (zp := []) rfl hk
 refine ⟨v, h1, ?_⟩
 simp only [heldElem, Option.some.injEq, Prod.mk.injEq] at h2
 exact h2.1.symm
theorem drop_G {w : World} {b n : Nat} {D : DataW Value} (h : OwnsG w b n D) {key : Value} {kl : Lit} (hk : keyOf Try.prog 72 key = some kl) (ty : TypeId) :
  ∃ w', (Builtin.delete_ #[62, 72] ty #[.map (some b), key]).run Try.prog w = .ok (.tuple #[]) w' ∧ OwnsG w' b n (D.del kl) ∧ w.mapTurned w' b :=
 World.ownsMap.drop h keyGram Try.underlying62 hk ty
theorem store_G {w : World} {b n : Nat} {D : DataW Value} (h : OwnsG w b n D) (hn : n < maxLen) {key val : Value} {kl : Lit} (hk : keyOf Try.prog 72 key = some kl) :
  ∃ w', (Instr.mapUpdate 62 (.map (some b)) key val).run Try.prog w = .ok () w' ∧ OwnsG w' b (n + 1) (D.put kl (.held val)) ∧ w.mapTurned w' b :=
 World.ownsMap.store h keyGram Try.underlying62 hn hk (d := .held val) (ps := []) rfl
theorem len_G {w : World} {b n : Nat} {D : DataW Value} (h : OwnsG w b n D) (ty : TypeId) : (Builtin.len_ #[62] ty #[.map (some b)]).run Try.prog w = .ok (.int .i64 (Maps.size D)) w :=
 World.ownsMap.len h Try.underlying62 ty
end Go.Proofs.Ytkeeidfpgfdldaa
namespace Go.Proofs.Ytkeeidfpgfdldaa
open Go.RowKit
set_option linter.unusedVariables false
set_option linter.unusedSimpArgs false
theorem cellsGram : Try.prog.cellsOf 72 = 8 := by kernel_rfl
theorem cellsAddr : Try.prog.cellsOf 37 = 3 := by kernel_rfl
theorem cellsInt : Try.prog.cellsOf 3 = 1 := by kernel_rfl
theorem cellsU64 : Try.prog.cellsOf 35 = 1 := by kernel_rfl
theorem cellsU32 : Try.prog.cellsOf 38 = 1 := by kernel_rfl
theorem lits_name (m : Nat) (sf sh sl df dh dl pr id : Int) (h1 : (Lit.int .i64 sf).wf = true) (h2 : (Lit.int .u64 sh).wf = true) (h3 : (Lit.int .u64 sl).wf = true) (h4 : (Lit.int .i64 df).wf = true) (h5 : (Lit.int .u64 dh).wf = true) (h6 : (Lit.int .u64 dl).wf = true) (h7 : (Lit.int .i64 pr).wf = true) (h8 : (Lit.int .u32 id).wf = true) :
  Try.prog.keyLits (m + 3) 72 [.int .i64 sf, .int .u64 sh, .int .u64 sl, .int .i64 df, .int .u64 dh, .int .u64 dl, .int .i64 pr, .int .u32 id] = some [.int .i64 sf, .int .u64 sh, .int .u64 sl, .int .i64 df, .int .u64 dh, .int .u64 dl, .int .i64 pr, .int .u32 id] := by
 simp [-Array.all_eq_true, -List.all_eq_true, List.all_cons, List.all_nil, Program.keyLits, Try.underlying72, Try.underlying37, Try.underlying3, Try.underlying35, Try.underlying38, cellsGram, cellsAddr, cellsInt, cellsU64, cellsU32, h1, h2, h3, h4, h5, h6, h7, h8]
/-- The key of a name. -/
theorem key_name (sf sh sl df dh dl pr id : Int) (h1 : (Lit.int .i64 sf).wf = true) (h2 : (Lit.int .u64 sh).wf = true) (h3 : (Lit.int .u64 sl).wf = true) (h4 : (Lit.int .i64 df).wf = true) (h5 : (Lit.int .u64 dh).wf = true) (h6 : (Lit.int .u64 dl).wf = true) (h7 : (Lit.int .i64 pr).wf = true) (h8 : (Lit.int .u32 id).wf = true) :
  keyOf Try.prog 72 (nameV ⟨sf, sh, sl⟩ ⟨df, dh, dl⟩ pr id) = some (.string (keyBytes [.int .i64 sf, .int .u64 sh, .int .u64 sl, .int .i64 df, .int .u64 dh, .int .u64 dl, .int .i64 pr, .int .u32 id])) := by
 have hkt : Try.prog.keyType 72 = true := by kernel_rfl
 have hsz : ∃ m, Try.prog.types.size + 1 = m + 3 := ⟨Try.prog.types.size - 2, by have : 3 ≤ Try.prog.types.size := of_decide_eq_true (by kernel_rfl); omega⟩
 obtain ⟨m, hm⟩ := hsz
 unfold keyOf
 rw [Try.underlying72]
 simp only [hkt, hm, nameV, Value.cells, Bool.true_and]
 rw [if_pos (by simp [Value.formed, Try.underlying72, cellsGram]), lits_name m sf sh sl df dh dl pr id h1 h2 h3 h4 h5 h6 h7 h8]
 rfl
theorem look1_G {w : World} {b n : Nat} {D : DataW Value} (h : OwnsG w b n D) {key : Value} {kl : Lit} (hk : keyOf Try.prog 72 key = some kl) {v : Value} (hv : D.atKey kl (.held (.agg zeroG.v)) = .held v) :
  (Instr.lookup 62 (.map (some b)) key false).run Try.prog w = .ok v w := by
 obtain ⟨v', ps, h1, h2⟩ := World.ownsMap.lookup h keyGram Try.underlying62 (zero_gram w) (zd := .held (.agg zeroG.v)) (zp := []) rfl hk
 simp only [heldElem, Option.some.injEq, Prod.mk.injEq] at h2
 have e : v' = v := by
  have := h2.1.trans hv
  injection this
 rw [← e]; exact h1
theorem yieldsIf_look {ops : Array Oper} {S : World → Prop} {o : Oper} {ac : Act} (hgd : o.guard = none) (m x : Operand) (ho : o.op = Op.lookup 62 m x false) (b n : Nat) (D : DataW Value) (key : Value) (kl : Lit) (hm : ac.eval m = .map (some b)) (hx : ac.eval x = key)
  (hS : ∀ w, S w → OwnsG w b n D) (hk : keyOf Try.prog 72 key = some kl) (v : Value) (hv : D.atKey kl (.held (.agg zeroG.v)) = .held v) : YieldsIf Try.prog ops S o v ac := by
 refine .inl ⟨by simp [Region.wanted, hgd], fun w hw => ?_⟩
 have hl := look1_G (hS w hw) hk hv
 simp [execOp, ho, hm, hx, hl, Result.andThen]
theorem But.turned {F : Nat → Prop} {a b c : World} {m : Nat} (h : But F a b) (k : b.mapTurned c m) (hm : F m ∨ a.heap.size ≤ m) : But F a c := h.grown k.grown (fun n hn => by cases hn; exact hm)
theorem Blk.turned {W W' : World} {g m : Nat} {t : TypeId} {cs : Array Value} (h : Blk W g t cs) (k : W.mapTurned W' m) (hn : g ≠ m) : Blk W' g t cs :=
 (k.grown.block g h.lt (fun e => hn (by injection e))).trans h
theorem step_delete {ops : Array Oper} {o : Oper} {ac : Act} {K : Act → World → Prop} {Q : Exit → Act → World → Prop} {Z : Prop} {w : World} (hgd : o.guard = none) (m x : Operand) (ho : o.op = Op.call { callee := Callee.builtin Builtin.delete, args := #[m, x], argTypes := #[62, 72] })
  (b n : Nat) (D : DataW Value) (key : Value) (kl : Lit) (hm : ac.eval m = .map (some b)) (hx : ac.eval x = key) (hS : OwnsG w b n D) (hk : keyOf Try.prog 72 key = some kl)
  (h : ∀ w', OwnsG w' b n (D.del kl) → w.mapTurned w' b → K (ac.put o.dst (.tuple #[])) w') :
  if Region.wanted o (yielded ops ac.tmps) = true then Oper.wp Try.prog o ac w K Q else Z := by
 have hw : Region.wanted o (yielded ops ac.tmps) = true := by simp [Region.wanted, hgd]
 rw [if_pos hw]
 obtain ⟨w', h1, h2, h3⟩ := drop_G hS hk o.type
 unfold Oper.wp execOp
 simp only [ho, resolve, invoke, builtin, Sem.run_bind, Sem.run_pure, Result.andThen_ok, List.map_toArray, List.map_cons, List.map_nil, hm, hx, h1]
 exact h w' h2 h3
set_option maxRecDepth 100000 in
set_option maxHeartbeats 4000000 in
theorem drop_any (tb mb n : Nat) (most room life now by_ : Int) (D : DataW Value) (g : Gm) (kl : Lit) (NV : Array Value) (hNs : NV.size = 8) (w : World) (hb : Blk w tb 64 #[.bool true, .int .i64 most, .int .i64 room, .int .i64 life, .int .i64 now, .int .i64 by_, .map (some mb)]) (hm : OwnsG w mb n D) (hk : keyOf Try.prog 72 (.agg NV) = some kl) (hv : D.atKey kl (.held (.agg zeroG.v)) = .held (.agg g.v))
  (h0 : 0 ≤ g.size) (h1 : g.size ≤ by_) (h2 : by_ ≤ 1048576) (hne : tb ≠ mb) :
  Calls Try.prog 30 #[.pointer (some ⟨tb, 0, none⟩), .agg NV] w fun e w' => e = .returned (.tuple #[]) ∧ Blk w' tb 64 #[.bool true, .int .i64 most, .int .i64 room, .int .i64 life, .int .i64 now, .int .i64 (by_ - g.size), .map (some mb)] ∧ OwnsG w' mb n (D.del kl) ∧ But (fun k => k = tb ∨ k = mb) w w' := by
 obtain ⟨W1, hW1⟩ : ∃ W, w.alloc (.cells NV 72) = W := ⟨_, rfl⟩
 have k1 := bel_nw hW1
 have N1 := blk_nw hW1
 have T1 := hb.al hW1
 have M1 : OwnsG W1 mb n D := by rw [← hW1]; exact hm.alloc _
 have hlt : tb < w.heap.size := hb.lt
 have hml : mb < w.heap.size := hm.lt
 have bW : But (fun k => k = tb ∨ k = mb) w W1 := But.of_below k1 _
 obtain ⟨SZ, hSZ⟩ : ∃ s, by_ - g.size = s := ⟨_, rfl⟩
 have wS : IntKind.i64.wrap SZ = SZ := wraps_i64 _ (by omega) (by omega)
 have HV : Hid (D.atKey kl (.held (.agg zeroG.v)) = .held (.agg g.v)) := hv
 have HK : Hid (keyOf Try.prog 72 (.agg NV) = some kl) := hk
 have tne : w.heap.size ≠ tb := by omega
 have mne : w.heap.size ≠ mb := by omega
 clear hb hm hv hk
 go_enter Try.func30, Try.ntmps30
 go_wp2_with fail
 have Nd := N1.drew
 have Td := T1.drew
 have Md : OwnsG W1.drew mb n D := M1.drew
 have bd : But (fun k => k = tb ∨ k = mb) w W1.drew := bW.below (Below.refl _ _).drew
 have c6 := Td.cell 6 (.map (some mb)) rfl
 refine wp_region_noPanic ?_
 refine wp_region_held_drew (S := fun w' => Blk w' w.heap.size 72 NV ∧ w'.cell? ⟨tb, 6, none⟩ = some (.map (some mb)) ∧ OwnsG w' mb n D) (by kernel_rfl) (by exact ⟨Nd, c6, Md⟩) (fun hHeld => ?_)
 generalize W1.drew = V1 at Nd Td Md bd c6 hHeld ⊢
 have e5 := Td.cell 5 (.int .i64 by_) rfl
 have z5 := Td.frozen 5
 refine qtk (i := 0) (oi := { dst := some 4, op := Op.move (.tmp 0), type := 25, pos := "frag.go:137", after := #[], guard := none }) (v := (.pointer (some ⟨tb, 0, none⟩))) hHeld ?_ ?_
 ·intro w9 hSw
  try dsimp only at hSw
  go_simp
 try simp only [qpu]
 refine qtk (i := 1) (oi := { dst := some 5, op := Op.nilCheck (.tmp 4), type := 0, pos := "frag.go:137", after := #[{ on := 0, ground := Ground.data }], guard := none }) (v := (.pointer (some ⟨tb, 0, none⟩))) hHeld ?_ ?_
 ·intro w9 hSw
  try dsimp only at hSw
  go_simp
 try simp only [qpu]
 refine qtk (i := 2) (oi := { dst := some 6, op := Op.fieldAddr 64 (.tmp 5) 5, type := 0, pos := "frag.go:137", after := #[{ on := 1, ground := Ground.data }], guard := none }) (v := (.pointer (some ⟨tb, 5, none⟩))) hHeld ?_ ?_
 ·intro w9 hSw
  try dsimp only at hSw
  go_simp
 try simp only [qpu]
 refine qtk (i := 4) (oi := { dst := some 8, op := Op.move (.tmp 0), type := 25, pos := "frag.go:137", after := #[], guard := none }) (v := (.pointer (some ⟨tb, 0, none⟩))) hHeld ?_ ?_
 ·intro w9 hSw
  try dsimp only at hSw
  go_simp
 try simp only [qpu]
 refine qtk (i := 5) (oi := { dst := some 9, op := Op.nilCheck (.tmp 8), type := 0, pos := "frag.go:137", after := #[{ on := 4, ground := Ground.data }], guard := none }) (v := (.pointer (some ⟨tb, 0, none⟩))) hHeld ?_ ?_
 ·intro w9 hSw
  try dsimp only at hSw
  go_simp
 try simp only [qpu]
 refine qtk (i := 6) (oi := { dst := some 10, op := Op.fieldAddr 64 (.tmp 9) 6, type := 0, pos := "frag.go:137", after := #[{ on := 5, ground := Ground.data }], guard := none }) (v := (.pointer (some ⟨tb, 6, none⟩))) hHeld ?_ ?_
 ·intro w9 hSw
  try dsimp only at hSw
  go_simp
 try simp only [qpu]
 refine qtk (i := 7) (oi := { dst := some 11, op := Op.load 62 (.tmp 10), type := 62, pos := "frag.go:137", after := #[{ on := 6, ground := Ground.data }], guard := none }) (v := (.map (some mb))) hHeld ?_ ?_
 ·intro w9 hSw
  try dsimp only at hSw
  have q9 := hSw.2.1
  go_simp
 try simp only [qpu]
 refine qty (i := 8) (oi := { dst := some 12, op := Op.load 72 (.tmp 3), type := 72, pos := "frag.go:137", after := #[], guard := none }) (v := (.agg NV)) (yieldsIf_blk rfl _ _ rfl w.heap.size (by rfl) _ (fun _ hSw => hSw.1) Try.underlying72 (by rw [hNs]; kernel_rfl)) hHeld ?_
 try simp only [qpu]
 refine qty (i := 9) (oi := { dst := some 13, op := Op.lookup 62 (.tmp 11) (.tmp 12) false, type := 75, pos := "frag.go:137", after := #[{ on := 7, ground := Ground.data }, { on := 8, ground := Ground.data }], guard := none }) (v := (.agg g.v)) (yieldsIf_look rfl _ _ rfl mb n D _ kl (by rfl) (by rfl) (fun _ hSw => hSw.2.2) HK.out _ HV.out) hHeld ?_
 try simp only [qpu]
 refine qtk (i := 10) (oi := { dst := some 14, op := Op.field 75 (.tmp 13) 4, type := 3, pos := "frag.go:137", after := #[{ on := 9, ground := Ground.data }], guard := none }) (v := (.int .i64 g.size)) hHeld ?_ ?_
 ·intro w9 hSw
  try dsimp only at hSw
  go_simp
  kernel_rfl
 try simp only [qpu]
 refine wpAnyH_ready (rs := [3]) (by kernel_rfl) (by simp) ?_
 refine AllReadyH.cons (o := { dst := some 7, op := Op.load 3 (.tmp 6), type := 3, pos := "frag.go:137", after := #[{ on := 2, ground := Ground.data }], guard := none }) rfl (fun K hK => ?_) AllReadyH.nil
 go_simp
 refine hK.out _ _ (by exact ⟨Nd, c6, Md⟩) (fun hHeld => ?_)
 clear hK K
 try simp only [qpu]
 refine qtk (i := 11) (oi := { dst := some 15, op := Op.binOp BinOp.sub 3 (.tmp 7) (.tmp 14) 3, type := 3, pos := "frag.go:137", after := #[{ on := 3, ground := Ground.data }, { on := 10, ground := Ground.data }], guard := none }) (v := (.int .i64 SZ)) hHeld ?_ ?_
 ·intro w9 hSw
  try dsimp only at hSw
  go_simp
 try simp only [qpu]
 refine qtk (i := 12) (oi := { dst := some 16, op := Op.nilCheck (.tmp 4), type := 0, pos := "frag.go:137", after := #[{ on := 0, ground := Ground.data }, { on := 0, ground := Ground.phase }, { on := 1, ground := Ground.phase }, { on := 2, ground := Ground.phase }, { on := 3, ground := Ground.phase }, { on := 4, ground := Ground.phase }, { on := 5, ground := Ground.phase }, { on := 6, ground := Ground.phase }, { on := 7, ground := Ground.phase }, { on := 8, ground := Ground.phase }, { on := 9, ground := Ground.phase }, { on := 10, ground := Ground.phase }, { on := 11, ground := Ground.phase }], guard := none }) (v := (.pointer (some ⟨tb, 0, none⟩))) hHeld ?_ ?_
 ·intro w9 hSw
  try dsimp only at hSw
  go_simp
 try simp only [qpu]
 refine qtk (i := 13) (oi := { dst := some 17, op := Op.fieldAddr 64 (.tmp 16) 5, type := 0, pos := "frag.go:137", after := #[{ on := 12, ground := Ground.data }, { on := 0, ground := Ground.phase }, { on := 1, ground := Ground.phase }, { on := 2, ground := Ground.phase }, { on := 3, ground := Ground.phase }, { on := 4, ground := Ground.phase }, { on := 5, ground := Ground.phase }, { on := 6, ground := Ground.phase }, { on := 7, ground := Ground.phase }, { on := 8, ground := Ground.phase }, { on := 9, ground := Ground.phase }, { on := 10, ground := Ground.phase }, { on := 11, ground := Ground.phase }], guard := none }) (v := (.pointer (some ⟨tb, 5, none⟩))) hHeld ?_ ?_
 ·intro w9 hSw
  try dsimp only at hSw
  go_simp
 try simp only [qpu]
 have T2 := Td.put 5 (.int .i64 SZ)
 have N2 := Nd.put_other Td tne 5 (.int .i64 SZ)
 have M2 : OwnsG (V1.setCell ⟨tb, 5, none⟩ (.int .i64 SZ)) mb n D := Md.setCell (a := ⟨tb, 5, none⟩) (fun h => hne h.symm) _
 have b2 := bd.setCell tb 5 (.inl (.inl rfl)) (.int .i64 SZ)
 have c62 := T2.cell 6 (.map (some mb)) rfl
 refine wpAnyH_ready (rs := [14]) (by kernel_rfl) (by simp) ?_
 refine AllReadyH.cons (o := { dst := none, op := Op.store 3 (.tmp 17) (.tmp 15), type := 0, pos := "frag.go:137", after := #[{ on := 13, ground := Ground.data }, { on := 11, ground := Ground.data }, { on := 0, ground := Ground.phase }, { on := 1, ground := Ground.phase }, { on := 2, ground := Ground.phase }, { on := 3, ground := Ground.phase }, { on := 4, ground := Ground.phase }, { on := 5, ground := Ground.phase }, { on := 6, ground := Ground.phase }, { on := 7, ground := Ground.phase }, { on := 8, ground := Ground.phase }, { on := 9, ground := Ground.phase }, { on := 10, ground := Ground.phase }, { on := 11, ground := Ground.phase }], guard := none }) rfl (fun K hK => ?_) AllReadyH.nil
 go_simp
 refine hK.out _ _ (by exact ⟨N2, c62, M2⟩) (fun hHeld => ?_)
 clear hK K hHeld
 try simp only [qpu]
 refine wpAnyH_done (by kernel_rfl) ?_ _
 refine NoPanic.normal ?_
 generalize World.setCell _ _ _ = V2 at T2 N2 M2 b2 c62 ⊢
 clear Nd Td Md bd c6 e5 z5
 go_wp2_with fail
 have Nd := N2.drew
 have Td := T2.drew
 have Md : OwnsG V2.drew mb n D := M2.drew
 have bd : But (fun k => k = tb ∨ k = mb) w V2.drew := b2.below (Below.refl _ _).drew
 have c6 := Td.cell 6 (.map (some mb)) rfl
 refine wp_region_noPanic ?_
 refine wp_region_held_drew (S := fun w' => Blk w' w.heap.size 72 NV ∧ w'.cell? ⟨tb, 6, none⟩ = some (.map (some mb))) (by kernel_rfl) (by exact ⟨Nd, c6⟩) (fun hHeld => ?_)
 generalize V2.drew = V3 at Nd Td Md bd c6 hHeld ⊢
 clear N2 T2 M2 b2 c62
 refine qtk (i := 0) (oi := { dst := some 18, op := Op.move (.tmp 0), type := 25, pos := "frag.go:138", after := #[], guard := none }) (v := (.pointer (some ⟨tb, 0, none⟩))) hHeld ?_ ?_
 ·intro w9 hSw
  try dsimp only at hSw
  go_simp
 try simp only [qpu]
 refine qtk (i := 1) (oi := { dst := some 19, op := Op.nilCheck (.tmp 18), type := 0, pos := "frag.go:138", after := #[{ on := 0, ground := Ground.data }], guard := none }) (v := (.pointer (some ⟨tb, 0, none⟩))) hHeld ?_ ?_
 ·intro w9 hSw
  try dsimp only at hSw
  go_simp
 try simp only [qpu]
 refine qtk (i := 2) (oi := { dst := some 20, op := Op.fieldAddr 64 (.tmp 19) 6, type := 0, pos := "frag.go:138", after := #[{ on := 1, ground := Ground.data }], guard := none }) (v := (.pointer (some ⟨tb, 6, none⟩))) hHeld ?_ ?_
 ·intro w9 hSw
  try dsimp only at hSw
  go_simp
 try simp only [qpu]
 refine qtk (i := 3) (oi := { dst := some 21, op := Op.load 62 (.tmp 20), type := 62, pos := "frag.go:138", after := #[{ on := 2, ground := Ground.data }], guard := none }) (v := (.map (some mb))) hHeld ?_ ?_
 ·intro w9 hSw
  try dsimp only at hSw
  have q9 := hSw.2
  go_simp
 try simp only [qpu]
 refine qty (i := 4) (oi := { dst := some 22, op := Op.load 72 (.tmp 3), type := 72, pos := "frag.go:138", after := #[], guard := none }) (v := (.agg NV)) (yieldsIf_blk rfl _ _ rfl w.heap.size (by rfl) _ (fun _ hSw => hSw.1) Try.underlying72 (by rw [hNs]; kernel_rfl)) hHeld ?_
 try simp only [qpu]
 refine wpAnyH_ready (rs := [5]) (by kernel_rfl) (by simp) ?_
 refine AllReadyH.cons (o := { dst := none, op := Op.call { callee := Callee.builtin Builtin.delete, args := #[.tmp 21, .tmp 22], argTypes := #[62, 72] }, type := 0, pos := "frag.go:138", after := #[{ on := 3, ground := Ground.data }, { on := 4, ground := Ground.data }], guard := none }) rfl (fun K hK => ?_) AllReadyH.nil
 refine step_delete rfl _ _ rfl mb n D _ kl (by rfl) (by rfl) Md HK.out ?_
 intro W5 M5 t5
 have T5 := Td.turned t5 hne
 have N5 := Nd.turned t5 mne
 refine hK.out _ _ (by exact ⟨N5, T5.cell 6 (.map (some mb)) rfl⟩) (fun hHeld => ?_)
 have b5 := bd.turned t5 (.inl (.inr rfl))
 clear hK K hHeld
 try simp only [qpu]
 refine wpAnyH_done (by kernel_rfl) ?_ _
 refine NoPanic.normal ?_
 go_wp2
 go_end0
 exact ⟨rfl, by first | exact T5 | (rw [hSZ]; exact T5), M5, b5⟩
set_option maxRecDepth 100000 in
set_option maxHeartbeats 4000000 in
theorem fGrams_at (g mb n : Nat) (D : DataW Value) (w : World) (h : w.cell? ⟨g, 0, none⟩ = some (.bool true)) (h' : w.cell? ⟨g, 6, none⟩ = some (.map (some mb))) (hm : OwnsG w mb n D) : Calls Try.prog 20 #[.pointer (some ⟨g, 0, none⟩)] w fun e w' => e = .returned (.int .i64 (Maps.size D)) ∧ w' = w := by
 have K := isMade_at g true w h
 have hl := len_G hm 3
 clear hm
 go_enter Try.func20, Try.ntmps20
 go_wp2_with fail
 refine Calls.mono K ?_
 rintro e w' ⟨rfl, rfl⟩
 go_wp2
 go_ret
 exact ⟨rfl, rfl⟩
end Go.Proofs.Ytkeeidfpgfdldaa
