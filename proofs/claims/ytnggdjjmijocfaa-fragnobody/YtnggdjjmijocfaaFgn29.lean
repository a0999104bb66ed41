/- Texts joined: FgN -/
import Derived.Test.YtnggdjjmijocfaaFgn28
import Derived.DeepKeys4
namespace Go.Proofs.Ytnggdjjmijocfaa
open Go.RowKit Go.Maps Go.WideMaps
set_option linter.unusedVariables false
theorem laidF : laidOutB Try.prog = true := by kernel_rfl
theorem rowGram : (72 : TypeId) < Try.prog.types.size := of_decide_eq_true (by kernel_rfl)
theorem wideGram : (match Try.prog.underlying 72 with | some (.array _ _) | some (.struct _) => true | _ => false) = true := by kernel_rfl
set_option maxRecDepth 100000 in
theorem lawGram : WideMaps.KeyLaw Try.prog 72 := deep_law_laid laidF (m := 3) (by omega) rowGram (by kernel_rfl) wideGram
theorem keyGram : Keyed Try.prog 72 := Keyed.of_law lawGram
/-- A name's value. -/
abbrev nameV (s d : Ad) (pr id : Int) : Value := .agg #[.int .i64 s.fam, .int .u64 s.hi, .int .u64 s.lo, .int .i64 d.fam, .int .u64 d.hi, .int .u64 d.lo, .int .i64 pr, .int .u32 id]
/-- An element is read as it is. -/
def heldElem (v : Value) : Option (DataW Value × List MemPlace) := some (.held v, [])
/-- The block b is the map of at most n datagrams that reads as D. -/
abbrev OwnsG (w : World) (b n : Nat) (D : DataW Value) : Prop := w.ownsMap Try.prog 72 heldElem b n D
theorem ownsG_new (w : World) : OwnsG (w.alloc (.map #[] 0)) w.heap.size 0 (.map []) := World.ownsMap_made w _ _ _
/-- The datagram of which nothing has come. -/
abbrev zeroG : Gm := ⟨0, false, ⟨0, ⟨0, 0, 0⟩, ⟨0, 0, 0⟩, 0, 0, none, 0, []⟩, none, 0, [], 0, 0, false⟩
theorem zero_gram (w : World) : (zeroValue 75).run Try.prog w = .ok (.agg zeroG.v) w := by kernel_rfl
theorem look_G {w : World} {b n : Nat} {D : DataW Value} (h : OwnsG w b n D) {key : Value} {kl : Lit} (hk : keyOf Try.prog 72 key = some kl) :
    ∃ v, (Instr.lookup 62 (.map (some b)) key true).run Try.prog w = .ok (.tuple #[v, .bool (Maps.has D kl)]) w ∧ D.atKey kl (.held (.agg zeroG.v)) = .held v := by
  obtain ⟨v, ps, h1, h2⟩ := World.ownsMap.look_ok h keyGram Try.underlying62 (zero_gram w) (zd := .held (.agg zeroG.v)) (zp := []) rfl hk
  refine ⟨v, h1, ?_⟩
  simp only [heldElem, Option.some.injEq, Prod.mk.injEq] at h2
  exact h2.1.symm
theorem drop_G {w : World} {b n : Nat} {D : DataW Value} (h : OwnsG w b n D) {key : Value} {kl : Lit} (hk : keyOf Try.prog 72 key = some kl) (ty : TypeId) :
    ∃ w', (Builtin.delete_ #[62, 72] ty #[.map (some b), key]).run Try.prog w = .ok (.tuple #[]) w' ∧ OwnsG w' b n (D.del kl) ∧ w.mapTurned w' b :=
  World.ownsMap.drop h keyGram Try.underlying62 hk ty
theorem store_G {w : World} {b n : Nat} {D : DataW Value} (h : OwnsG w b n D) (hn : n < maxLen) {key val : Value} {kl : Lit} (hk : keyOf Try.prog 72 key = some kl) :
    ∃ w', (Instr.mapUpdate 62 (.map (some b)) key val).run Try.prog w = .ok () w' ∧ OwnsG w' b (n + 1) (D.put kl (.held val)) ∧ w.mapTurned w' b :=
  World.ownsMap.store h keyGram Try.underlying62 hn hk (d := .held val) (ps := []) rfl
theorem len_G {w : World} {b n : Nat} {D : DataW Value} (h : OwnsG w b n D) (ty : TypeId) : (Builtin.len_ #[62] ty #[.map (some b)]).run Try.prog w = .ok (.int .i64 (Maps.size D)) w :=
  World.ownsMap.len h Try.underlying62 ty
end Go.Proofs.Ytnggdjjmijocfaa
