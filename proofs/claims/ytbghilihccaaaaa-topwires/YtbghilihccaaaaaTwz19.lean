/- Texts joined: FgX -/
import Derived.Test.YtbghilihccaaaaaTwz18
namespace Go.Proofs.Ytbghilihccaaaaa
open Go.RowKit
set_option linter.unusedVariables false
set_option linter.unusedSimpArgs false
/-- All of a datagram's memory is below B. -/
structure GmL (g : Gm) (B : Nat) : Prop where
  ps : ∀ p ∈ g.ps, ∀ x, p.da = some x → x.block < B
  xs : ∀ x, g.hd.xa = some x → x.block < B
theorem GmL.at_ {g : Gm} {B : Nat} (h : GmL g B) {C gg : Nat} (hC : B ≤ C) (hg : B ≤ gg) : GmB g C gg :=
  ⟨fun p hp x hx => ⟨Nat.lt_of_lt_of_le (h.ps p hp x hx) hC, by have := h.ps p hp x hx; omega⟩, fun x hx => ⟨Nat.lt_of_lt_of_le (h.xs x hx) hC, by have := h.xs x hx; omega⟩⟩
/-- A datagram's bytes and its list lie apart from F. -/
structure GmO (g : Gm) (F : Nat → Prop) : Prop where
  ps : ∀ p ∈ g.ps, Off F p.da
  xs : Off F g.hd.xa
theorem GmR.but {F : Nat → Prop} {w w' : World} {g : Gm} (h : GmR w g) (k : But F w w') (o : GmO g F) (hp : Off F g.pa) : GmR w' g :=
  ⟨ownsRow_block h.row (fun x hx => k.block x.block (ownsRow_lt h.row x hx) (hp x hx)), fun p hp => ⟨(h.each p hp).1.but k (o.ps p hp), (h.each p hp).2⟩, h.exts.but k o.xs, h.few⟩
/-- A datagram with another time. -/
abbrev Gm.at_ (g : Gm) (t : Int) : Gm := { g with ends := t }
theorem GmR.at_ {w : World} {g : Gm} (h : GmR w g) (t : Int) : GmR w (g.at_ t) := ⟨h.row, h.each, h.exts, h.few⟩
theorem GmN.at_ {g : Gm} (h : GmN g) (t : Int) : GmN (g.at_ t) := ⟨h.off, h.size, h.reach⟩
theorem GmA.at_ {g : Gm} (h : GmA g) (t : Int) : GmA (g.at_ t) := ⟨h.ps, h.xs⟩
theorem GmL.time {g : Gm} {B : Nat} (h : GmL g B) (t : Int) : GmL (g.at_ t) B := ⟨h.ps, h.xs⟩
/-- The pieces' row is no map. -/
theorem ownsRow_map {w : World} {B n : Nat} {t : TypeId} {s : Nat} {a : Option Addr} {c : Nat} {xs : List Value} (h : w.ownsRow B t s (.slice a n c) n xs) {mb k : Nat} {D : DataW Value} (hm : OwnsG w mb k D) : ∀ x, a = some x → x.block ≠ mb := fun x hx e => by
  obtain ⟨es, ck, hb, _⟩ := hm
  rcases h.2 with ⟨h3, _⟩ | ⟨g', cap, cur, h3, _, h5, _⟩
  · simp only [Value.slice.injEq] at h3
    rw [h3.1] at hx; cases hx
  · simp only [Value.slice.injEq] at h3
    rw [h3.1] at hx; cases hx
    subst e
    have := h5.symm.trans hb
    simp at this
theorem ownsG_but {F : Nat → Prop} {w w' : World} {mb n : Nat} {D : DataW Value} (h : OwnsG w mb n D) (k : But F w w') (hn : ¬ F mb) : OwnsG w' mb n D := by
  have hl := h.lt
  obtain ⟨es, ck, h1, h2⟩ := h
  exact ⟨es, ck, (k.block mb hl hn).trans h1, h2⟩
/-- The header behind a fragment at the place of. -/
def HdOf (B C : Nat) (h0 h : Hd) (f sf sh sl df dh dl pr ho of : Int) (X : List Int) : Prop :=
  (of = 0 ∧ ∃ ax cx, h = ⟨f, ⟨sf, sh, sl⟩, ⟨df, dh, dl⟩, pr, ho, ax, cx, X⟩ ∧ New B ax ∧ ∀ x, ax = some x → x.block < C) ∨ (¬ of = 0 ∧ h = h0)
theorem HdOf.mono {B C B' C' : Nat} {h0 h : Hd} {f sf sh sl df dh dl pr ho of : Int} {X : List Int} (k : HdOf B C h0 h f sf sh sl df dh dl pr ho of X) (hB : B' ≤ B) (hC : C ≤ C') : HdOf B' C' h0 h f sf sh sl df dh dl pr ho of X := by
  rcases k with ⟨h1, ax, cx, h2, h3, h4⟩ | k
  · exact .inl ⟨h1, ax, cx, h2, fun x hx => Nat.le_trans hB (h3 x hx), fun x hx => Nat.lt_of_lt_of_le (h4 x hx) hC⟩
  · exact .inr k
theorem New.mono {B B' : Nat} {a : Option Addr} (h : New B a) (hB : B' ≤ B) : New B' a := fun x hx => Nat.le_trans hB (h x hx)
theorem gmo_more {g : Gm} {t of : Int} {mo : Bool} {h : Hd} {gx cx c4 B C : Nat} {a4 : Option Addr} {dat X : List Int} {f sf sh sl df dh dl pr ho : Int} {F : Nat → Prop} (hO : GmO g F) (HH : HdOf B C g.hd h f sf sh sl df dh dl pr ho of X) (na : New B a4) (hF : ∀ k, B ≤ k → ¬ F k) :
    GmO ((g.at_ t).more h gx cx ⟨of, a4, c4, dat⟩ mo) F := by
  refine ⟨fun p hp x hx => ?_, fun x hx => ?_⟩
  · rcases List.mem_append.1 hp with hp | hp
    · exact hO.ps p hp x hx
    · obtain rfl := List.mem_singleton.1 hp
      exact hF _ (na x hx)
  · rcases HH with ⟨_, ax, cx, rfl, h3, _⟩ | ⟨_, rfl⟩
    · exact hF _ (h3 x hx)
    · exact hO.xs x hx
theorem GmO.or {g : Gm} {F : Nat → Prop} {B c : Nat} (h : GmO g F) (hL : GmL g B) (hc : B ≤ c) : GmO g (fun k => F k ∨ k = c) := by
  refine ⟨fun p hp x hx hF => ?_, fun x hx hF => ?_⟩
  · rcases hF with hF | hF
    · exact h.ps p hp x hx hF
    · have := hL.ps p hp x hx
      omega
  · rcases hF with hF | hF
    · exact h.xs x hx hF
    · have := hL.xs x hx
      omega
theorem add_any (gg : Nat) (g : Gm) (f sf sh sl df dh dl pr ho : Int) (fg : Bool) (id of : Int) (mo : Bool) (xa : Option Addr) (xc : Nat) (X : List Int) (da : Option Addr) (dc : Nat) (dat : List Int) (w : World)
    (hb : Blk w gg 75 g.v) (hg : GmR w g) (ha : GmA g) (hB : GmB g w.heap.size gg) (hN : GmN g) (hfew : g.ps.length + 1 ≤ 65535) (h0 : 0 ≤ of) (h1 : of ≤ 65528) (hl : dat.length ≤ 65535) (hdat : Row w da dat) (hnil : da = none → dc = 0) (hoff : ∀ x, da = some x → x.block ≠ gg) (hx : RowI w xa X) (hxn : xa = none → xc = 0) :
    Calls Try.prog 46 #[.pointer (some ⟨gg, 0, none⟩), .agg #[.int .i64 f, .int .i64 sf, .int .u64 sh, .int .u64 sl, .int .i64 df, .int .u64 dh, .int .u64 dl, .int .i64 pr, .int .i64 ho, .bool fg, .int .u32 id, .int .i64 of, .bool mo, .slice xa X.length xc, .slice da dat.length dc]] w fun e w' => e = .returned (.tuple #[]) ∧ ∃ h gx cx a4 c4,
      HdOf w.heap.size w'.heap.size g.hd h f sf sh sl df dh dl pr ho of X ∧ Blk w' gg 75 (g.more h gx cx ⟨of, a4, c4, dat⟩ mo).v ∧ GmR w' (g.more h gx cx ⟨of, a4, c4, dat⟩ mo) ∧ GmA (g.more h gx cx ⟨of, a4, c4, dat⟩ mo) ∧ New w.heap.size a4 ∧ ((∃ x, g.pa = some x ∧ x.block = gx) ∨ w.heap.size ≤ gx) ∧ But (addF gg g.pa) w w' := by
  by_cases hof : of = 0
  · subst hof
    refine (add_first gg g f sf sh sl df dh dl pr ho fg id mo xa xc X da dc dat w hb hg ha hB hN hfew hl hdat hnil hoff hx hxn).mono ?_
    rintro e w' ⟨rfl, ax, cx0, gx, cx, a4, c4, r1, r2, r3, r4, r5, r6, r7⟩
    exact ⟨rfl, _, gx, cx, a4, c4, .inl ⟨rfl, ax, cx0, rfl, r5.1, r5.2⟩, r1, r2, r3, r4, r6, r7⟩
  · refine (add_more gg g f sf sh sl df dh dl pr ho fg id of mo xa xc X da dc dat w hof hb hg ha hB hN hfew h0 h1 hl hdat hnil).mono ?_
    rintro e w' ⟨rfl, gx, cx, a4, c4, r1, r2, r3, r4, r6, r7⟩
    exact ⟨rfl, _, gx, cx, a4, c4, .inr ⟨hof, rfl⟩, r1, r2, r3, r4, r6, r7⟩
end Go.Proofs.Ytbghilihccaaaaa
