/- Texts joined: Arg3 Ip6M -/
import Derived.Test.YtebdpiedgjdjeaaFga6
import Derived.ProofKit
import Derived.OpenShut
import Derived.Deep.Strs
import Derived.ChangeSame
import Derived.ChangeArms
namespace Go.Proofs.Ytebdpiedgjdjeaa
open Go.ChangeShapes Go.WideShapes Go.ChangeAt Go.RowKit
set_option linter.unusedVariables false
set_option linter.unusedSimpArgs false
set_option linter.constructorNameAsVariable false
set_option maxRecDepth 100000
theorem wf_i64 {x : Int} (h : (Lit.int .i64 x).wf = true) : -9223372036854775808 ≤ x ∧ x ≤ 9223372036854775807 := by
  simpa [Lit.wf, IntKind.min, IntKind.max, IntKind.signed, IntKind.bits] using h
theorem wf_u64 {x : Int} (h : (Lit.int .u64 x).wf = true) : 0 ≤ x ∧ x ≤ 18446744073709551615 := by
  simpa [Lit.wf, IntKind.min, IntKind.max, IntKind.signed, IntKind.bits] using h
theorem lst3 {cs : List Value} (h : cs.length = 3) : ∃ a b c, cs = [a, b, c] := by
  match cs, h with
  | [a, b, c], _ => exact ⟨a, b, c, rfl⟩
theorem adr_cells {H : Type} {enc : TypeId × Value → H} {W : World} {n : Nat} {cs : List Value} {y : DataW H × List MemPlace}
    (h : DataW.trod enc Try.prog W 0 (fun _ => true) true n 37 cs = some y) : ∃ f h l, cs = [.int .i64 f, .int .u64 h, .int .u64 l] ∧ Ad.ok ⟨f, h, l⟩ := by
  obtain ⟨y0, y1, y2, k, _, hl, h0, h1, h2⟩ := Go.Deep.trod_struct3 Try.underlying37 h
  have c24 : Try.prog.cellsOf 37 = 3 := by kernel_rfl
  have c3 : Try.prog.cellsOf 3 = 1 := by kernel_rfl
  have c22 : Try.prog.cellsOf 35 = 1 := by kernel_rfl
  rw [c24] at hl
  obtain ⟨v0, v1, v2, rfl⟩ := lst3 hl
  simp only [c3, c22] at h0 h1 h2
  obtain ⟨f, e0, _, w0⟩ := DataW.trod_int Try.underlying3 h0
  obtain ⟨h, e1, _, w1⟩ := DataW.trod_int Try.underlying35 h1
  obtain ⟨l, e2, _, w2⟩ := DataW.trod_int Try.underlying35 h2
  simp only [List.drop_zero, List.drop_succ_cons, List.take_succ_cons, List.take_zero, List.cons.injEq, and_true] at e0 e1 e2
  subst e0 e1 e2
  exact ⟨_, _, _, rfl, wf_i64 w0, wf_u64 w1, wf_u64 w2⟩
theorem bytes_cells {H : Type} {enc : TypeId × Value → H} {W : World} {fuel : Nat} {cs : List Value} {y : DataW H × List MemPlace} (hf : DataW.trod enc Try.prog W 0 (fun _ => true) true fuel 40 cs = some y)
    (hsz : ∀ n ∈ y.1.weights Try.prog 40, n ≤ reachBytes) :
    ∃ (a : Option Addr) (cap : Nat) (l : List Int), cs = [.slice a l.length cap] ∧ l.length ≤ cap ∧ cap ≤ 140737488351232 ∧ (a = none → cap = 0) ∧ Row W a l := by
  have hbe : Try.prog.bytesOf 5 = 1 := by kernel_rfl
  rcases open_ints Try.underlying40 Try.underlying5 (by kernel_rfl) hf with ⟨hcs, _⟩ | ⟨x, l, c, zs, hcs, _, hl, hm, hz, hx, hcell, hwz⟩
  · exact ⟨none, 0, [], hcs, Nat.le_refl _, by omega, fun _ => rfl, row_nil _ _⟩
  · simp only [if_true] at hz
    subst hx
    have hn := hsz ((lits .u8 (zs.take l)).length + (lits (H := H) .u8 (zs.drop l)).length) (by simp only [DataW.weights, Try.underlying40, hbe, Nat.mul_one]; exact List.mem_cons_self ..)
    simp only [lits, List.length_map, List.length_take, List.length_drop, reachBytes] at hn
    have e1 : l = (zs.take l).length := by simp; omega
    exact ⟨some x, c, zs.take l, by rw [← e1]; exact hcs, by omega, by omega, fun h => (by cases h), row_of_ints (by omega) hcell hwz⟩
end Go.Proofs.Ytebdpiedgjdjeaa
namespace Go.Proofs.Ytebdpiedgjdjeaa
set_option linter.unusedVariables false
set_option linter.unusedSimpArgs false
/-- An extension header's options: 0, or 7 at the first one that may not be. -/
def opt6Go : Nat → List Int → Int
  | 0, _ => 0
  | _ + 1, [] => 0
  | n + 1, x :: r => if x = 0 then opt6Go n r else if x / 64 ≠ 0 ∨ r.length < 1 ∨ r.getD 0 0 > (r.length : Int) - 1 then 7 else opt6Go n (r.drop (1 + (r.getD 0 0).toNat))
def opt6 (b : List Int) : Int := opt6Go b.length b
/-- How far extension headers were gone over. -/
structure St where
  next : Int
  l : List Int
  ex : List Int
  met : Bool
  cut : Bool
  id : Int
  off : Int
  more : Bool
def hsz (k : Int) (b : List Int) : Nat := if k = 44 ∨ b.length < 2 then 8 else ((b.getD 1 0).toNat + 1) * 8
def isExt (n : Int) : Bool := decide (n = 0 ∨ n = 43 ∨ n = 44 ∨ n = 60)
/-- What is wrong with the header at hand, whose bytes are there. -/
def lerr (s : St) : Int :=
  if s.next = 0 then (if s.met = true ∨ 0 < s.ex.length then 7 else opt6 ((s.l.take (hsz s.next s.l)).drop 2))
  else if s.next = 43 then (if s.l.getD 3 0 ≠ 0 ∨ s.l.getD 2 0 = 0 then 8 else 0)
  else if s.next = 44 then (if s.met = true then 7 else 0)
  else opt6 ((s.l.take (hsz s.next s.l)).drop 2)
def werr (s : St) : Int := if s.ex.length = 8 then 17 else if s.l.length < hsz s.next s.l then 4 else lerr s
/-- A fragment's numbers. -/
def frg (s : St) : St := { s with met := true, id := u32 s.l 4, off := u16 s.l 2 / 8 * 8, more := decide (u16 s.l 2 % 2 = 1), cut := decide (u16 s.l 2 / 8 * 8 ≠ 0) || decide (u16 s.l 2 % 2 = 1) }
def took (s : St) : St := if s.next = 44 then frg s else s
def stepd (s : St) (n : Nat) : St := { s with next := s.l.getD 0 0, l := s.l.drop n, ex := s.ex ++ [s.next] }
def after (s : St) : St := stepd (took s) (hsz s.next s.l)
def over (s : St) : Bool := s.cut || !isExt s.next
def wgo : Nat → St → Int × St
  | 0, s => (0, s)
  | n + 1, s => if over s = true then (0, s) else if werr s ≠ 0 then (werr s, s) else wgo n (after s)
def wend (s : St) : Int × St := wgo (9 - s.ex.length) s
/-- What Walk begins with, and what Parse begins with. -/
def st0 (next : Int) (l : List Int) (met : Bool) : St := ⟨next, l, [], met, false, 0, 0, false⟩
def least (n : Int) : Int := if n = 6 then 20 else if n = 17 ∨ n = 1 ∨ n = 58 then 8 else 0
/-- Are all headers of a datagram there? -/
def whole (proto : Int) (data : List Int) : Bool := decide ((wend (st0 proto data true)).1 = 0) && decide (least (wend (st0 proto data true)).2.next ≤ ((wend (st0 proto data true)).2.l.length : Int))
end Go.Proofs.Ytebdpiedgjdjeaa
