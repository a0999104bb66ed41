/- Texts joined: FgO -/
import Derived.Test.YtnggdjjmijocfaaFgn29
namespace Go.Proofs.Ytnggdjjmijocfaa
open Go.RowKit
set_option linter.unusedVariables false
set_option linter.unusedSimpArgs false
theorem cellsGram : Try.prog.cellsOf 72 = 8 := by kernel_rfl
theorem cellsAddr : Try.prog.cellsOf 37 = 3 := by kernel_rfl
theorem cellsInt : Try.prog.cellsOf 3 = 1 := by kernel_rfl
theorem cellsU64 : Try.prog.cellsOf 35 = 1 := by kernel_rfl
theorem cellsU32 : Try.prog.cellsOf 38 = 1 := by kernel_rfl
theorem lits_name (m : Nat) (sf sh sl df dh dl pr id : Int) (h1 : (Lit.int .i64 sf).wf = true) (h2 : (Lit.int .u64 sh).wf = true) (h3 : (Lit.int .u64 sl).wf = true) (h4 : (Lit.int .i64 df).wf = true) (h5 : (Lit.int .u64 dh).wf = true) (h6 : (Lit.int .u64 dl).wf = true) (h7 : (Lit.int .i64 pr).wf = true) (h8 : (Lit.int .u32 id).wf = true) :
    Try.prog.keyLits (m + 3) 72 [.int .i64 sf, .int .u64 sh, .int .u64 sl, .int .i64 df, .int .u64 dh, .int .u64 dl, .int .i64 pr, .int .u32 id] = some [.int .i64 sf, .int .u64 sh, .int .u64 sl, .int .i64 df, .int .u64 dh, .int .u64 dl, .int .i64 pr, .int .u32 id] := by
  simp [-Array.all_eq_true, -List.all_eq_true, List.all_cons, List.all_nil, Program.keyLits, Try.underlying72, Try.underlying37, Try.underlying3, Try.underlying35, Try.underlying38, cellsGram, cellsAddr, cellsInt, cellsU64, cellsU32, h1, h2, h3, h4, h5, h6, h7, h8]
/-- The key of a name. -/
theorem key_name (sf sh sl df dh dl pr id : Int) (h1 : (Lit.int .i64 sf).wf = true) (h2 : (Lit.int .u64 sh).wf = true) (h3 : (Lit.int .u64 sl).wf = true) (h4 : (Lit.int .i64 df).wf = true) (h5 : (Lit.int .u64 dh).wf = true) (h6 : (Lit.int .u64 dl).wf = true) (h7 : (Lit.int .i64 pr).wf = true) (h8 : (Lit.int .u32 id).wf = true) :
    keyOf Try.prog 72 (nameV ⟨sf, sh, sl⟩ ⟨df, dh, dl⟩ pr id) = some (.string (keyBytes [.int .i64 sf, .int .u64 sh, .int .u64 sl, .int .i64 df, .int .u64 dh, .int .u64 dl, .int .i64 pr, .int .u32 id])) := by
  have hkt : Try.prog.keyType 72 = true := by kernel_rfl
  have hsz : ∃ m, Try.prog.types.size + 1 = m + 3 := ⟨Try.prog.types.size - 2, by have : 3 ≤ Try.prog.types.size := of_decide_eq_true (by kernel_rfl); omega⟩
  obtain ⟨m, hm⟩ := hsz
  unfold keyOf
  rw [Try.underlying72]
  simp only [hkt, hm, nameV, Value.cells, Bool.true_and]
  rw [if_pos (by simp [Value.formed, Try.underlying72, cellsGram]), lits_name m sf sh sl df dh dl pr id h1 h2 h3 h4 h5 h6 h7 h8]
  rfl
end Go.Proofs.Ytnggdjjmijocfaa
