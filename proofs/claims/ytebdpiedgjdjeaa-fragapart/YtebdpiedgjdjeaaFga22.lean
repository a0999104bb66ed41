/- Texts joined: FgN FgO -/
import Derived.Test.YtebdpiedgjdjeaaFga21
import Derived.DeepKeys4
namespace Go.Proofs.Ytebdpiedgjdjeaa
open Go.RowKit Go.Maps Go.WideMaps
set_option linter.unusedVariables false
theorem laidF : laidOutB Try.prog = true := by kernel_rfl
theorem rowGram : (72 : TypeId) < Try.prog.types.size := of_decide_eq_true (by kernel_rfl)
theorem wideGram : (match Try.prog.underlying 72 with | some (.array _ _) | some (.struct _) => true | _ => false) = true := by kernel_rfl
set_option maxRecDepth 100000 in
theorem lawGram : WideMaps.KeyLaw Try.prog 72 := deep_law_laid laidF (m := 3) (by omega) rowGram (by kernel_rfl) wideGram
theorem keyGram : Keyed Try.prog 72 := Keyed.of_law lawGram
/-- A name's value. -/
abbrev nameV (s d : Ad) (pr id : Int) : Value := .agg #[.int .i64 s.fam, .int .u64 s.hi, .int .u64 s.lo, .int .i64 d.fam, .int .u64 d.hi, .int .u64 d.lo, .int .i64 pr, .int .u32 id]
/-- An element is read as it is. -/
def heldElem (v : Value) : Option (DataW Value × List MemPlace) := some (.held v, [])
/-- The block b is the map of at most n datagrams that reads as D. -/
abbrev OwnsG (w : World) (b n : Nat) (D : DataW Value) : Prop := w.ownsMap Try.prog 72 heldElem b n D
theorem ownsG_new (w : World) : OwnsG (w.alloc (.map #[] 0)) w.heap.size 0 (.map []) := World.ownsMap_made w _ _ _
/-- The datagram of which nothing has come. -/
abbrev zeroG : Gm := ⟨0, false, ⟨0, ⟨0, 0, 0⟩, ⟨0, 0, 0⟩, 0, 0, none, 0, []⟩, none, 0, [], 0, 0, false⟩
theorem zero_gram (w : World) : (zeroValue 75).run Try.prog w = .ok (.agg zeroG.v) w := by kernel_rfl
theorem look_G {w : World} {b n : Nat} {D : DataW Value} (h : OwnsG w b n D) {key : Value} {kl : Lit} (hk : keyOf Try.prog 72 key = some kl) :
    ∃ v, (Instr.lookup 62 (.map (some b)) key true).run Try.prog w = .ok (.tuple #[v, .bool (Maps.has D kl)]) w ∧ D.atKey kl (.held (.agg zeroG.v)) = .held v := by
  obtain ⟨v, ps, h1, h2⟩ := World.ownsMap.look_ok h keyGram Try.underlying62 (zero_gram w) (zd := .held (.agg zeroG.v)) (zp := []) rfl hk
  refine ⟨v, h1, ?_⟩
  simp only [heldElem, Option.some.injEq, Prod.mk.injEq] at h2
  exact h2.1.symm
theorem drop_G {w : World} {b n : Nat} {D : DataW Value} (h : OwnsG w b n D) {key : Value} {kl : Lit} (hk : keyOf Try.prog 72 key = some kl) (ty : TypeId) :
    ∃ w', (Builtin.delete_ #[62, 72] ty #[.map (some b), key]).run Try.prog w = .ok (.tuple #[]) w' ∧ OwnsG w' b n (D.del kl) ∧ w.mapTurned w' b :=
  World.ownsMap.drop h keyGram Try.underlying62 hk ty
theorem store_G {w : World} {b n : Nat} {D : DataW Value} (h : OwnsG w b n D) (hn : n < maxLen) {key val : Value} {kl : Lit} (hk : keyOf Try.prog 72 key = some kl) :
    ∃ w', (Instr.mapUpdate 62 (.map (some b)) key val).run Try.prog w = .ok () w' ∧ OwnsG w' b (n + 1) (D.put kl (.held val)) ∧ w.mapTurned w' b :=
  World.ownsMap.store h keyGram Try.underlying62 hn hk (d := .held val) (ps := []) rfl
theorem len_G {w : World} {b n : Nat} {D : DataW Value} (h : OwnsG w b n D) (ty : TypeId) : (Builtin.len_ #[62] ty #[.map (some b)]).run Try.prog w = .ok (.int .i64 (Maps.size D)) w :=
  World.ownsMap.len h Try.underlying62 ty
end Go.Proofs.Ytebdpiedgjdjeaa
namespace Go.Proofs.Ytebdpiedgjdjeaa
open Go.RowKit
set_option linter.unusedVariables false
set_option linter.unusedSimpArgs false
theorem cellsGram : Try.prog.cellsOf 72 = 8 := by kernel_rfl
theorem cellsAddr : Try.prog.cellsOf 37 = 3 := by kernel_rfl
theorem cellsInt : Try.prog.cellsOf 3 = 1 := by kernel_rfl
theorem cellsU64 : Try.prog.cellsOf 35 = 1 := by kernel_rfl
theorem cellsU32 : Try.prog.cellsOf 38 = 1 := by kernel_rfl
theorem lits_name (m : Nat) (sf sh sl df dh dl pr id : Int) (h1 : (Lit.int .i64 sf).wf = true) (h2 : (Lit.int .u64 sh).wf = true) (h3 : (Lit.int .u64 sl).wf = true) (h4 : (Lit.int .i64 df).wf = true) (h5 : (Lit.int .u64 dh).wf = true) (h6 : (Lit.int .u64 dl).wf = true) (h7 : (Lit.int .i64 pr).wf = true) (h8 : (Lit.int .u32 id).wf = true) :
    Try.prog.keyLits (m + 3) 72 [.int .i64 sf, .int .u64 sh, .int .u64 sl, .int .i64 df, .int .u64 dh, .int .u64 dl, .int .i64 pr, .int .u32 id] = some [.int .i64 sf, .int .u64 sh, .int .u64 sl, .int .i64 df, .int .u64 dh, .int .u64 dl, .int .i64 pr, .int .u32 id] := by
  simp [-Array.all_eq_true, -List.all_eq_true, List.all_cons, List.all_nil, Program.keyLits, Try.underlying72, Try.underlying37, Try.underlying3, Try.underlying35, Try.underlying38, cellsGram, cellsAddr, cellsInt, cellsU64, cellsU32, h1, h2, h3, h4, h5, h6, h7, h8]
/-- The key of a name. -/
theorem key_name (sf sh sl df dh dl pr id : Int) (h1 : (Lit.int .i64 sf).wf = true) (h2 : (Lit.int .u64 sh).wf = true) (h3 : (Lit.int .u64 sl).wf = true) (h4 : (Lit.int .i64 df).wf = true) (h5 : (Lit.int .u64 dh).wf = true) (h6 : (Lit.int .u64 dl).wf = true) (h7 : (Lit.int .i64 pr).wf = true) (h8 : (Lit.int .u32 id).wf = true) :
    keyOf Try.prog 72 (nameV ⟨sf, sh, sl⟩ ⟨df, dh, dl⟩ pr id) = some (.string (keyBytes [.int .i64 sf, .int .u64 sh, .int .u64 sl, .int .i64 df, .int .u64 dh, .int .u64 dl, .int .i64 pr, .int .u32 id])) := by
  have hkt : Try.prog.keyType 72 = true := by kernel_rfl
  have hsz : ∃ m, Try.prog.types.size + 1 = m + 3 := ⟨Try.prog.types.size - 2, by have : 3 ≤ Try.prog.types.size := of_decide_eq_true (by kernel_rfl); omega⟩
  obtain ⟨m, hm⟩ := hsz
  unfold keyOf
  rw [Try.underlying72]
  simp only [hkt, hm, nameV, Value.cells, Bool.true_and]
  rw [if_pos (by simp [Value.formed, Try.underlying72, cellsGram]), lits_name m sf sh sl df dh dl pr id h1 h2 h3 h4 h5 h6 h7 h8]
  rfl
end Go.Proofs.Ytebdpiedgjdjeaa
