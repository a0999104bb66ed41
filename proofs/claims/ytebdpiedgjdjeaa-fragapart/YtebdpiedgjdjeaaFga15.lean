/- Texts joined: FgH -/
import Derived.Test.YtebdpiedgjdjeaaFga14
namespace Go.Proofs.Ytebdpiedgjdjeaa
open Go.RowKit
set_option linter.unusedVariables false
set_option linter.unusedSimpArgs false
/-- Does a fragment clash with a datagram? -/
def clashB (g : Gm) (of : Int) (mo : Bool) (n : Nat) : Bool :=
  if (g.last && (!mo || decide (of + n > g.reach))) = true then true else if (!mo && decide (g.reach > of + n)) = true then true else g.ps.any (shareB of (of + n))
set_option maxRecDepth 100000 in
set_option maxHeartbeats 4000000 in
theorem clashes_any (g : Gm) (f sf sh sl df dh dl pr ho : Int) (fg : Bool) (id of : Int) (mo : Bool) (xa : Option Addr) (xc : Nat) (X : List Int) (da : Option Addr) (dc : Nat) (dat : List Int) (w : World) (hg : GmR w g) (hn : GmN g) (h0 : 0 ≤ of) (h1 : of ≤ 65528) (hl : dat.length ≤ 65535) :
    Calls Try.prog 45 #[.agg g.v, .agg #[.int .i64 f, .int .i64 sf, .int .u64 sh, .int .u64 sl, .int .i64 df, .int .u64 dh, .int .u64 dl, .int .i64 pr, .int .i64 ho, .bool fg, .int .u32 id, .int .i64 of, .bool mo, .slice xa X.length xc, .slice da dat.length dc]] w fun e w' => e = .returned (.bool (clashB g of mo dat.length)) ∧ Below w.heap.size w w' := by
  obtain ⟨W1, hW1⟩ : ∃ W, w.alloc (.cells g.v 75) = W := ⟨_, rfl⟩
  obtain ⟨W2, hW2⟩ : ∃ W, W1.alloc (.cells #[.int .i64 f, .int .i64 sf, .int .u64 sh, .int .u64 sl, .int .i64 df, .int .u64 dh, .int .u64 dl, .int .i64 pr, .int .i64 ho, .bool fg, .int .u32 id, .int .i64 of, .bool mo, .slice xa X.length xc, .slice da dat.length dc] 42) = W := ⟨_, rfl⟩
  have b1 := bel_nw hW1
  have b2 := bel_al b1 hW2
  have G1 := blk_nw hW1
  have G2 := G1.al hW2
  have P2 := blk_nw hW2
  have d11 := P2.cell 11 (.int .i64 of) rfl
  have d14 := P2.cell 14 (.slice da dat.length dc) rfl
  obtain ⟨EN, hEN⟩ : ∃ e, of + (dat.length : Int) = e := ⟨_, rfl⟩
  have wE : IntKind.i64.wrap (of + (dat.length : Int)) = EN := by rw [← hEN]; exact wraps_i64 _ (by omega) (by omega)
  obtain ⟨W3, hW3⟩ : ∃ W, W2.alloc (.cells #[.int .i64 EN] 3) = W := ⟨_, rfl⟩
  have b3 := bel_al b2 hW3
  have G3 := G2.al hW3
  have P3 := P2.al hW3
  have E3 := blk_nw hW3
  have KC : Hid _ := contains_any g W1.heap.size W2.heap.size of EN W3 (hg.below b3) hn (P3.cell 11 (.int .i64 of) rfl) (E3.cell 0 (.int .i64 EN) rfl)
  have e8 := P3.cell 12 (.bool mo) rfl
  have e20 := G3.cell 20 (.bool g.last) rfl
  have e19 := G3.cell 19 (.int .i64 g.reach) rfl
  have e17 := G3.cell 17 (.slice g.pa g.ps.length g.pc) rfl
  have ee := E3.cell 0 (.int .i64 EN) rfl
  unfold clashB
  rw [hEN]
  obtain ⟨lst, hlst⟩ : ∃ l, g.last = l := ⟨_, rfl⟩
  obtain ⟨rch, hrch⟩ : ∃ l, g.reach = l := ⟨_, rfl⟩
  obtain ⟨B, hB⟩ : ∃ l, g.ps.any (shareB of EN) = l := ⟨_, rfl⟩
  rw [hlst] at e20 ⊢
  rw [hrch] at e19 ⊢
  rw [hB] at KC ⊢
  clear hg hn G1 G2 P2 G3 P3 E3 hEN hlst hrch hB b1 b2
  go_enter Try.func45, Try.ntmps45
  cases lst <;> cases mo
  all_goals (
    go_wp2_with fail)
  all_goals first
    | (go_ret; exact ⟨by first | rfl | (simp_all; done) | (simp_all; omega), b3⟩)
    | (refine Calls.mono KC.out ?_; rintro e W4 ⟨rfl, bb⟩; have b4 := bel_tr b3 bb; clear KC bb; go_wp2; all_goals go_ret; all_goals exact ⟨by first | rfl | (simp_all; done) | (simp_all; omega) | (simp_all; intro h; omega), b4⟩)
end Go.Proofs.Ytebdpiedgjdjeaa
