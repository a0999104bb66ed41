/- Texts joined: FhE -/
import Derived.Test.YtnggdjjmijocfaaFgn46
namespace Go.Proofs.Ytnggdjjmijocfaa
open Go.RowKit
set_option linter.unusedVariables false
set_option linter.unusedSimpArgs false
set_option maxRecDepth 100000 in
set_option maxHeartbeats 4000000 in
theorem same_ip (f sf sh sl df dh dl pr ho : Int) (fg : Bool) (id of : Int) (mo : Bool) (xa : Option Addr) (xc : Nat) (ya : Option Addr) (yc : Nat) (a : Option Addr) (c : Nat) (b : Option Addr) (d : Nat) (l : List Int) (w : World) (ha : Row w a l) (hb : Row w b l) :
    Calls Try.prog 19 #[.agg #[.int .i64 f, .int .i64 sf, .int .u64 sh, .int .u64 sl, .int .i64 df, .int .u64 dh, .int .u64 dl, .int .i64 pr, .int .i64 ho, .bool fg, .int .u32 id, .int .i64 of, .bool mo, .slice xa 0 xc, .slice a l.length c], .agg #[.int .i64 f, .int .i64 sf, .int .u64 sh, .int .u64 sl, .int .i64 df, .int .u64 dh, .int .u64 dl, .int .i64 pr, .int .i64 ho, .bool fg, .int .u32 id, .int .i64 of, .bool mo, .slice ya 0 yc, .slice b l.length d]] w fun e w' => e = .returned (.bool true) ∧ Below w.heap.size w w' := by
  have bb : Below w.heap.size w ((w.alloc (.cells #[.int .i64 f, .int .i64 sf, .int .u64 sh, .int .u64 sl, .int .i64 df, .int .u64 dh, .int .u64 dl, .int .i64 pr, .int .i64 ho, .bool fg, .int .u32 id, .int .i64 of, .bool mo, .slice xa 0 xc, .slice a l.length c] 42)).alloc (.cells #[.int .i64 f, .int .i64 sf, .int .u64 sh, .int .u64 sl, .int .i64 df, .int .u64 dh, .int .u64 dl, .int .i64 pr, .int .i64 ho, .bool fg, .int .u32 id, .int .i64 of, .bool mo, .slice ya 0 yc, .slice b l.length d] 42)) := ((Below.refl _ _).alloc (Nat.le_refl _) _).alloc (by simp) _
  have ha2 := ha.below bb
  have hb2 := hb.below bb
  have KK : Hid (Calls Try.prog 38 #[.slice a l.length c, .slice b l.length d] ((w.alloc (.cells #[.int .i64 f, .int .i64 sf, .int .u64 sh, .int .u64 sl, .int .i64 df, .int .u64 dh, .int .u64 dl, .int .i64 pr, .int .i64 ho, .bool fg, .int .u32 id, .int .i64 of, .bool mo, .slice xa 0 xc, .slice a l.length c] 42)).alloc (.cells #[.int .i64 f, .int .i64 sf, .int .u64 sh, .int .u64 sl, .int .i64 df, .int .u64 dh, .int .u64 dl, .int .i64 pr, .int .i64 ho, .bool fg, .int .u32 id, .int .i64 of, .bool mo, .slice ya 0 yc, .slice b l.length d] 42)) _) := same_any a b c d l _ ha2 hb2
  have BB : Hid _ := bb
  clear ha hb ha2 hb2 bb
  go_enter Try.func19, Try.ntmps19
  go_wp2
  go_loop [5] (fun i => i = .int .i64 0) (fun _ => 0)
  case atStart => rfl
  case round =>
    subst hrel
    go_wp2_with fail
    refine KK.out.mono ?_
    rintro e w' ⟨rfl, rfl⟩
    go_wp2
    go_ret
    exact ⟨rfl, BB.out⟩
/-- Nobody made this table. -/
def NMf (po : Option Addr) (w : World) : Prop := ∀ W, Below w.heap.size w W → Calls Try.prog 29 #[.pointer po] W fun e w' => e = .returned (.bool false) ∧ w' = W
theorem NMf.below {po : Option Addr} {w w' : World} (h : NMf po w) (hb : Below w.heap.size w w') : NMf po w' := fun W hW => h W (hb.trans (hW.mono hb.size))
theorem nmf_nil (w : World) : NMf none w := fun W _ => isMade_nil W
theorem nmf_at (g : Nat) (w : World) (h : w.cell? ⟨g, 0, none⟩ = some (.bool false)) : NMf (some ⟨g, 0, none⟩) w := fun W hW => isMade_at g false W ((hW.cell (World.block_lt_of_cell? w _ h)).trans h)
theorem nbf_grams (po : Option Addr) (w : World) (h : NMf po w) : Calls Try.prog 20 #[.pointer po] w fun e w' => e = .returned (.int .i64 0) ∧ w' = w := by
  have K := h w (Below.refl _ _)
  clear h
  go_enter Try.func20, Try.ntmps20
  go_wp2_with fail
  refine Calls.mono K ?_
  rintro e w' ⟨rfl, rfl⟩
  go_wp2
  go_ret
  exact ⟨rfl, rfl⟩
theorem nbf_bytes (po : Option Addr) (w : World) (h : NMf po w) : Calls Try.prog 21 #[.pointer po] w fun e w' => e = .returned (.int .i64 0) ∧ w' = w := by
  have K := h w (Below.refl _ _)
  clear h
  go_enter Try.func21, Try.ntmps21
  go_wp2_with fail
  refine Calls.mono K ?_
  rintro e w' ⟨rfl, rfl⟩
  go_wp2
  go_ret
  exact ⟨rfl, rfl⟩
theorem nbf_now (po : Option Addr) (w : World) (h : NMf po w) : Calls Try.prog 23 #[.pointer po] w fun e w' => e = .returned (.int .i64 0) ∧ w' = w := by
  have K := h w (Below.refl _ _)
  clear h
  go_enter Try.func23, Try.ntmps23
  go_wp2_with fail
  refine Calls.mono K ?_
  rintro e w' ⟨rfl, rfl⟩
  go_wp2
  go_ret
  exact ⟨rfl, rfl⟩
end Go.Proofs.Ytnggdjjmijocfaa
