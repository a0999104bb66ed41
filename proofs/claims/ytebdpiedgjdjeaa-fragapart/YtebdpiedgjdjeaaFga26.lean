/- Texts joined: FgS -/
import Derived.Test.YtebdpiedgjdjeaaFga25
namespace Go.Proofs.Ytebdpiedgjdjeaa
open Go.RowKit Go.Maps Go.WideMaps
set_option linter.unusedVariables false
set_option linter.unusedSimpArgs false
theorem look2_G {w : World} {b n : Nat} {D : DataW Value} (h : OwnsG w b n D) {key : Value} {kl : Lit} (hk : keyOf Try.prog 72 key = some kl) {v : Value} (hv : D.atKey kl (.held (.agg zeroG.v)) = .held v) :
    (Instr.lookup 62 (.map (some b)) key true).run Try.prog w = .ok (.tuple #[v, .bool (Maps.has D kl)]) w := by
  obtain ⟨v', h1, h2⟩ := look_G h hk
  have e : v' = v := by
    have := h2.symm.trans hv
    injection this
  rw [← e]; exact h1
theorem yieldsIf_look2 {ops : Array Oper} {S : World → Prop} {o : Oper} {ac : Act} (hgd : o.guard = none) (m x : Operand) (ho : o.op = Op.lookup 62 m x true) (b n : Nat) (D : DataW Value) (key : Value) (kl : Lit) (hm : ac.eval m = .map (some b)) (hx : ac.eval x = key)
    (hS : ∀ w, S w → OwnsG w b n D) (hk : keyOf Try.prog 72 key = some kl) (v : Value) (hv : D.atKey kl (.held (.agg zeroG.v)) = .held v) : YieldsIf Try.prog ops S o (.tuple #[v, .bool (Maps.has D kl)]) ac := by
  refine .inl ⟨by simp [Region.wanted, hgd], fun w hw => ?_⟩
  have hl := look2_G (hS w hw) hk hv
  simp [execOp, ho, hm, hx, hl, Result.andThen]
theorem step_update {ops : Array Oper} {o : Oper} {ac : Act} {K : Act → World → Prop} {Q : Exit → Act → World → Prop} {Z : Prop} {w : World} (hgd : o.guard = none) (m x y : Operand) (ho : o.op = Op.mapUpdate 62 m x y)
    (b n : Nat) (D : DataW Value) (key val : Value) (kl : Lit) (hm : ac.eval m = .map (some b)) (hx : ac.eval x = key) (hy : ac.eval y = val) (hS : OwnsG w b n D) (hn : n < maxLen) (hk : keyOf Try.prog 72 key = some kl)
    (h : ∀ w', OwnsG w' b (n + 1) (D.put kl (.held val)) → w.mapTurned w' b → K (ac.put o.dst undef) w') :
    if Region.wanted o (yielded ops ac.tmps) = true then Oper.wp Try.prog o ac w K Q else Z := by
  have hw : Region.wanted o (yielded ops ac.tmps) = true := by simp [Region.wanted, hgd]
  rw [if_pos hw]
  obtain ⟨w', h1, h2, h3⟩ := store_G (val := val) hS hn hk
  unfold Oper.wp execOp
  simp only [ho, Sem.run_bind, Sem.run_pure, Result.andThen_ok, hm, hx, hy, h1]
  exact h w' h2 h3
end Go.Proofs.Ytebdpiedgjdjeaa
