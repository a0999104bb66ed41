/- Texts joined: TcM0 -/
import Derived.Test.YtmmnjjcopdabcaaTcx29
import Derived.Test.YtmmnjjcopdabcaaTcx30
import Derived.Test.YtmmnjjcopdabcaaTcx31
import Derived.Test.YtmmnjjcopdabcaaTcx32
import Derived.Test.YtmmnjjcopdabcaaTcx33
namespace Go.Proofs.Ytmmnjjcopdabcaa
open Go.RowKit
set_option linter.unusedVariables false
set_option linter.unusedSimpArgs false
set_option maxRecDepth 100000 in
set_option maxHeartbeats 4000000 in
theorem rstep0_tc (c : Cn) (g : Gt) (w : World) :
  Calls Try.prog 19 #[.agg c.v, .int .i64 0, .agg g.v] w fun e w' => e = .returned (.tuple #[.agg (c.step 0 g).1.v, .int .i64 (c.step 0 g).2]) ∧ Below w.heap.size w w' := by
 by_cases h : c.right = true ∧ inB15 g.win = true ∧ inB15 g.sz = true ∧ flB g.fl 4 = false ∧ (c.st == 6) = false ∧ flB g.fl 2 = false ∧ flB g.fl 16 = true ∧ (c.st == 1) = false ∧ c.win false g = true ∧ frB g.ak ((c.n1 - 65535) % 4294967296) = true ∧ frB c.n1 g.ak = true
 ·obtain ⟨qRR, qIW, qIZ, qA4, qX6, qA2, qA16, qX1, qV, qQ1, qQ2⟩ := h
  cases p : frB g.e c.n0 <;> cases o : frB ((g.ak + g.win) % 4294967296) c.e1
  ·exact rstep0ff_tc c g w qRR qIW qIZ qA4 qX6 qA2 qA16 qX1 qV qQ1 qQ2 p o
  ·exact rstep0ft_tc c g w qRR qIW qIZ qA4 qX6 qA2 qA16 qX1 qV qQ1 qQ2 p o
  ·exact rstep0tf_tc c g w qRR qIW qIZ qA4 qX6 qA2 qA16 qX1 qV qQ1 qQ2 p o
  ·exact rstep0tt_tc c g w qRR qIW qIZ qA4 qX6 qA2 qA16 qX1 qV qQ1 qQ2 p o
 ·exact rstep0N_tc c g w h
end Go.Proofs.Ytmmnjjcopdabcaa
