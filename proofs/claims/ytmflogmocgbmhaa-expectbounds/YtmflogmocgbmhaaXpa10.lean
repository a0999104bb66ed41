/- Texts joined: WkA -/
import Derived.Test.YtmflogmocgbmhaaXpa4
import Derived.Test.YtmflogmocgbmhaaXpa8
namespace Go.Proofs.Ytmflogmocgbmhaa
open Go.RowKit
set_option linter.unusedVariables false
set_option linter.unusedSimpArgs false
theorem retB_fw {a b : Bool} (h : a = b) : Ending.returned (.bool a) = Ending.returned (.bool b) := by rw [h]
theorem retN_fw {k : IntKind} {a b : Int} (h : a = b) : Ending.returned (.int k a) = Ending.returned (.int k b) := by rw [h]
set_option maxRecDepth 100000 in
set_option maxHeartbeats 4000000 in
theorem neq_way (a b : Wy) (w : World) : (Go.binOp .neq 26 (.agg a.v) (.agg b.v)).run Try.prog w = Result.ok (.bool (!(a.eqB b))) w := by
  obtain ⟨f, pr, ⟨sf, sh, sl⟩, ⟨df, dh, dl⟩, sp, dp⟩ := a
  obtain ⟨f', pr', ⟨sf', sh', sl'⟩, ⟨df', dh', dl'⟩, sp', dp'⟩ := b
  unfold Wy.eqB
  simp only
  by_cases h1 : f = f'
  case neg => simp [go_sem, h1]
  subst h1
  by_cases h2 : pr = pr'
  case neg => simp [go_sem, h2]
  subst h2
  by_cases h3 : sf = sf'
  case neg => simp [go_sem, h3]
  subst h3
  by_cases h4 : sh = sh'
  case neg => simp [go_sem, h4]
  subst h4
  by_cases h5 : sl = sl'
  case neg => simp [go_sem, h5]
  subst h5
  by_cases h6 : df = df'
  case neg => simp [go_sem, h6]
  subst h6
  by_cases h7 : dh = dh'
  case neg => simp [go_sem, h7]
  subst h7
  by_cases h8 : dl = dl'
  case neg => simp [go_sem, h8]
  subst h8
  by_cases h9 : sp = sp'
  case neg => simp [go_sem, h9]
  subst h9
  by_cases h : dp = dp' <;> simp [go_sem, h]
theorem but_al {F : Nat → Prop} {w W W' : World} {o : Obj} (h : But F w W) (e : W.alloc o = W') : But F w W' := h.below (bel_nw e)
theorem but_setRow {F : Nat → Prop} {w W : World} (h : But F w W) {g : Nat} (hg : F g ∨ w.heap.size ≤ g) (cs : Array Value) : But F w (W.setRow g cs) := h.setRow g hg cs
theorem But.drew {F : Nat → Prop} {w W : World} (h : But F w W) : But F w W.drew := h.below (Below.refl _ _).drew
theorem But.al {F : Nat → Prop} {w W W' : World} {o : Obj} (h : But F w W) (e : W.alloc o = W') : But F w W' := but_al h e
theorem But.kept {F : Nat → Prop} {w W W' : World} (h : But F w W) (b : Below W.heap.size W W') : But F w W' := h.below b
theorem But.other {F : Nat → Prop} {w W : World} (h : But F w W) {g : Nat} (hg : F g ∨ w.heap.size ≤ g) (cs : Array Value) : But F w (W.setRow g cs) := h.setRow g hg cs
theorem But.put_other {F : Nat → Prop} {w W : World} {g : Nat} {t : TypeId} {cs : Array Value} (h : But F w W) (_ : Blk W g t cs) (hg : F g ∨ w.heap.size ≤ g) (i : Nat) (v : Value) : But F w (W.setCell ⟨g, i, none⟩ v) := h.setCell g i hg v
theorem bel_but {w W W' : World} {tb mb : Nat} (b : Below w.heap.size w W) (k : But (fun k => k = tb ∨ k = mb) W W') (h1 : w.heap.size ≤ tb) (h2 : w.heap.size ≤ mb) : Below w.heap.size w W' := b.trans (k.to_below b.size (fun i hi h => by omega))
theorem But.own {F : Nat → Prop} {w a b : World} (h : But F w a) (bl : Below w.heap.size a b) : But F w b := ⟨bl.os.trans h.os, bl.tape.trans h.tape, bl.output.trans h.output, Nat.le_trans h.size bl.size, fun k hk hn => (bl.block k hk).trans (h.block k hk hn)⟩
end Go.Proofs.Ytmflogmocgbmhaa
