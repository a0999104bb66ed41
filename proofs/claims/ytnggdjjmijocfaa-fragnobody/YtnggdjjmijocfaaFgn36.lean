/- Texts joined: FgW -/
import Derived.Test.YtnggdjjmijocfaaFgn35
import Derived.BigQuiet
namespace Go.Proofs.Ytnggdjjmijocfaa
open Go.RowKit
set_option linter.unusedVariables false
set_option linter.unusedSimpArgs false
theorem blk_drewN {W : World} {g : Nat} {t : TypeId} {cs : Array Value} (h : Blk W g t cs) (k : Nat) : Blk (W.drewN k) g t cs := by
  unfold Blk at h ⊢
  rw [← h]; simp
theorem ownsG_drewN {W : World} {mb n : Nat} {D : DataW Value} (h : OwnsG W mb n D) (k : Nat) : OwnsG (W.drewN k) mb n D := by
  obtain ⟨es, ck, h1, h2⟩ := h
  exact ⟨es, ck, by rw [← h1]; simp, h2⟩
end Go.Proofs.Ytnggdjjmijocfaa
