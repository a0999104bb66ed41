/- Texts joined: FgM -/
import Derived.Test.YtebdpiedgjdjeaaFga19
import Derived.Test.YtebdpiedgjdjeaaFga20
namespace Go.Proofs.Ytebdpiedgjdjeaa
open Go.RowKit
set_option linter.unusedVariables false
set_option linter.unusedSimpArgs false
/-- The pieces' own row lies apart from what they hold. -/
structure GmA (g : Gm) : Prop where
  ps : ∀ p ∈ g.ps, ∀ x y, p.da = some x → g.pa = some y → x.block ≠ y.block
  xs : ∀ x y, g.hd.xa = some x → g.pa = some y → x.block ≠ y.block
/-- A datagram with one more piece. -/
abbrev Gm.more (g : Gm) (h : Hd) (gx cx : Nat) (p : Pc) (mo : Bool) : Gm :=
  { g with hd := h, pa := some ⟨gx, 0, none⟩, pc := cx, ps := g.ps ++ [p], size := g.size + p.data.length, reach := if g.reach < p.off + p.data.length then p.off + p.data.length else g.reach, last := g.last || !mo }
theorem pcells_more (ps : List Pc) (of : Int) (a4 : Option Addr) (c4 : Nat) (dat : List Int) : pcells (ps ++ [⟨of, a4, c4, dat⟩]) = pcells ps ++ [.int .i64 of, .slice a4 dat.length c4] := pcells_app ps ⟨of, a4, c4, dat⟩
/-- What add leaves of a datagram whose header is as it was. -/
theorem more_r {w W : World} {gg : Nat} {g : Gm} {h : Hd} {of : Int} {dat : List Int} {cs : Array Value} {gx cx : Nat} {a4 : Option Addr} {c4 : Nat} {mo : Bool}
    (A : Aft w W gg g.pa g.ps.length (pcells g.ps) of dat cs gx cx a4 c4) (he : ∀ p ∈ g.ps, Row w p.da p.data ∧ p.data.length ≤ p.dc ∧ (p.da = none → p.dc = 0)) (hx : RowI w h.xa h.X) (hfew : g.ps.length + 1 ≤ 65535)
    (hgg : ∀ p ∈ g.ps, ∀ x, p.da = some x → x.block ≠ gg) (hap : ∀ p ∈ g.ps, ∀ x y, p.da = some x → g.pa = some y → x.block ≠ y.block) (hlt : ∀ p ∈ g.ps, ∀ x, p.da = some x → x.block < w.heap.size)
    (xgg : ∀ x, h.xa = some x → x.block ≠ gg) (xap : ∀ x y, h.xa = some x → g.pa = some y → x.block ≠ y.block) (xlt : ∀ x, h.xa = some x → x.block < w.heap.size) :
    GmR W (g.more h gx cx ⟨of, a4, c4, dat⟩ mo) ∧ GmA (g.more h gx cx ⟨of, a4, c4, dat⟩ mo) := by
  refine ⟨⟨?_, fun p hp => ?_, ?_, ?_⟩, fun p hp x y hx' hy => ?_, fun x y hx' hy => ?_⟩
  · have := A.row
    rw [← pcells_more] at this
    simpa using this
  · rcases List.mem_append.1 hp with hp | hp
    · obtain ⟨h1, h2, h3⟩ := he p hp
      refine ⟨h1.but A.but (fun x hx' hF => ?_), h2, h3⟩
      rcases hF with hF | ⟨y, hy, hF⟩
      · exact hgg p hp x hx' hF
      · exact hap p hp x y hx' hy hF.symm
    · obtain rfl := List.mem_singleton.1 hp
      exact ⟨A.data, A.room, A.nil⟩
  · refine hx.but A.but (fun x hx' hF => ?_)
    rcases hF with hF | ⟨y, hy, hF⟩
    · exact xgg x hx' hF
    · exact xap x y hx' hy hF.symm
  · simpa using hfew
  · cases hy
    rcases List.mem_append.1 hp with hp | hp
    · rcases A.at_ with ⟨z, hz, hg⟩ | hg
      · show x.block ≠ gx
        rw [← hg]; exact hap p hp x z hx' hz
      · have := hlt p hp x hx'
        show x.block ≠ gx
        omega
    · obtain rfl := List.mem_singleton.1 hp
      exact A.apart x hx'
  · cases hy
    rcases A.at_ with ⟨z, hz, hg⟩ | hg
    · show x.block ≠ gx
      rw [← hg]; exact xap x z hx' hz
    · have := xlt x hx'
      show x.block ≠ gx
      omega
/-- Where a datagram's memory lies: below B, and not in gg. -/
structure GmB (g : Gm) (B gg : Nat) : Prop where
  ps : ∀ p ∈ g.ps, ∀ x, p.da = some x → x.block < B ∧ x.block ≠ gg
  xs : ∀ x, g.hd.xa = some x → x.block < B ∧ x.block ≠ gg
theorem add_more (gg : Nat) (g : Gm) (f sf sh sl df dh dl pr ho : Int) (fg : Bool) (id of : Int) (mo : Bool) (xa : Option Addr) (xc : Nat) (X : List Int) (da : Option Addr) (dc : Nat) (dat : List Int) (w : World) (hof : ¬ of = 0)
    (hb : Blk w gg 75 g.v) (hg : GmR w g) (ha : GmA g) (hB : GmB g w.heap.size gg) (hN : GmN g) (hfew : g.ps.length + 1 ≤ 65535) (h0 : 0 ≤ of) (h1 : of ≤ 65528) (hl : dat.length ≤ 65535) (hdat : Row w da dat) (hnil : da = none → dc = 0) :
    Calls Try.prog 46 #[.pointer (some ⟨gg, 0, none⟩), .agg #[.int .i64 f, .int .i64 sf, .int .u64 sh, .int .u64 sl, .int .i64 df, .int .u64 dh, .int .u64 dl, .int .i64 pr, .int .i64 ho, .bool fg, .int .u32 id, .int .i64 of, .bool mo, .slice xa X.length xc, .slice da dat.length dc]] w fun e w' => e = .returned (.tuple #[]) ∧ ∃ gx cx a4 c4,
      Blk w' gg 75 (g.more g.hd gx cx ⟨of, a4, c4, dat⟩ mo).v ∧ GmR w' (g.more g.hd gx cx ⟨of, a4, c4, dat⟩ mo) ∧ GmA (g.more g.hd gx cx ⟨of, a4, c4, dat⟩ mo) ∧ New w.heap.size a4 ∧ ((∃ x, g.pa = some x ∧ x.block = gx) ∨ w.heap.size ≤ gx) ∧ But (addF gg g.pa) w w' := by
  refine (add_n gg g.ps.length g.v g.pa g.pc (pcells g.ps) g.size g.reach g.last f sf sh sl df dh dl pr ho fg id of mo xa xc X da dc dat w hof hb rfl rfl rfl rfl rfl hg.row hg.few hN.size.1 hN.size.2 hN.reach.1 hN.reach.2 h0 h1 hl hdat hnil).mono ?_
  rintro e w' ⟨rfl, gx, cx, a4, c4, A⟩
  obtain ⟨r1, r2⟩ := more_r (h := g.hd) (mo := mo) A hg.each hg.exts hfew (fun p hp x hx => (hB.ps p hp x hx).2) ha.ps (fun p hp x hx => (hB.ps p hp x hx).1) (fun x hx => (hB.xs x hx).2) ha.xs (fun x hx => (hB.xs x hx).1)
  refine ⟨rfl, gx, cx, a4, c4, ?_, r1, r2, A.new, A.at_, A.but⟩
  have := A.blk
  simpa [Gm.more, Gm.v] using this
theorem add_first (gg : Nat) (g : Gm) (f sf sh sl df dh dl pr ho : Int) (fg : Bool) (id : Int) (mo : Bool) (xa : Option Addr) (xc : Nat) (X : List Int) (da : Option Addr) (dc : Nat) (dat : List Int) (w : World)
    (hb : Blk w gg 75 g.v) (hg : GmR w g) (ha : GmA g) (hB : GmB g w.heap.size gg) (hN : GmN g) (hfew : g.ps.length + 1 ≤ 65535) (hl : dat.length ≤ 65535) (hdat : Row w da dat) (hnil : da = none → dc = 0) (hoff : ∀ x, da = some x → x.block ≠ gg) (hx : RowI w xa X) (hxn : xa = none → xc = 0) :
    Calls Try.prog 46 #[.pointer (some ⟨gg, 0, none⟩), .agg #[.int .i64 f, .int .i64 sf, .int .u64 sh, .int .u64 sl, .int .i64 df, .int .u64 dh, .int .u64 dl, .int .i64 pr, .int .i64 ho, .bool fg, .int .u32 id, .int .i64 0, .bool mo, .slice xa X.length xc, .slice da dat.length dc]] w fun e w' => e = .returned (.tuple #[]) ∧ ∃ ax cx0 gx cx a4 c4,
      Blk w' gg 75 (g.more ⟨f, ⟨sf, sh, sl⟩, ⟨df, dh, dl⟩, pr, ho, ax, cx0, X⟩ gx cx ⟨0, a4, c4, dat⟩ mo).v ∧ GmR w' (g.more ⟨f, ⟨sf, sh, sl⟩, ⟨df, dh, dl⟩, pr, ho, ax, cx0, X⟩ gx cx ⟨0, a4, c4, dat⟩ mo) ∧ GmA (g.more ⟨f, ⟨sf, sh, sl⟩, ⟨df, dh, dl⟩, pr, ho, ax, cx0, X⟩ gx cx ⟨0, a4, c4, dat⟩ mo) ∧ New w.heap.size a4 ∧ (New w.heap.size ax ∧ ∀ x, ax = some x → x.block < w'.heap.size) ∧ ((∃ x, g.pa = some x ∧ x.block = gx) ∨ w.heap.size ≤ gx) ∧ But (addF gg g.pa) w w' := by
  refine (add_0 gg g.ps.length g.v g.pa g.pc (pcells g.ps) g.size g.reach g.last f sf sh sl df dh dl pr ho fg id mo xa xc X da dc dat w hb rfl rfl rfl rfl rfl hg.row hg.few hN.size.1 hN.size.2 hN.reach.1 hN.reach.2 hl hdat hnil hoff hx hxn).mono ?_
  rintro e w' ⟨rfl, Wx, ax, cx0, bx, rx, nx, lx, gx, cx, a4, c4, A⟩
  have hlt := ownsRow_lt hg.row
  have hgl := hb.lt
  have hF : ∀ p ∈ g.ps, Off (addF gg g.pa) p.da := fun p hp x hx' hF => by
    rcases hF with hF | ⟨y, hy, hF⟩
    · exact (hB.ps p hp x hx').2 hF
    · exact ha.ps p hp x y hx' hy hF.symm
  obtain ⟨r1, r2⟩ := more_r (h := ⟨f, ⟨sf, sh, sl⟩, ⟨df, dh, dl⟩, pr, ho, ax, cx0, X⟩) (mo := mo) A (fun p hp => ⟨(hg.each p hp).1.but bx (hF p hp), (hg.each p hp).2⟩) rx hfew (fun p hp x hx => (hB.ps p hp x hx).2) ha.ps (fun p hp x hx => Nat.lt_of_lt_of_le (hB.ps p hp x hx).1 bx.size) (fun x hx => by have := nx x hx; show x.block ≠ gg; omega) (fun x y hx hy => by have := nx x hx; have := hlt y hy; show x.block ≠ y.block; omega) lx
  refine ⟨rfl, ax, cx0, gx, cx, a4, c4, ?_, r1, r2, fun x hx => Nat.le_trans bx.size (A.new x hx), ⟨nx, fun x hx => Nat.lt_of_lt_of_le (lx x hx) A.but.size⟩, ?_, bx.trans A.but (fun _ _ h => h)⟩
  · have := A.blk
    simpa [Gm.more, Gm.v, setMany] using this
  · rcases A.at_ with h | h
    · exact .inl h
    · exact .inr (Nat.le_trans bx.size h)
end Go.Proofs.Ytebdpiedgjdjeaa
