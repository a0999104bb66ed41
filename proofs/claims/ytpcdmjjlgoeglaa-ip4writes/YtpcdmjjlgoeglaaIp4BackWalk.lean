/- The law Ip4Back returns true. -/
import Derived.Test.YtpcdmjjlgoeglaaIp4S
import Derived.Deep.RegionHeld3
namespace Go.Proofs.Ytpcdmjjlgoeglaa
open Go.RowKit
set_option linter.unusedVariables false
set_option linter.unusedSimpArgs false

theorem bare_ret {R : Ending → World → Prop} {a : Act} {w : World} {g : Nat} {v0 v1 v2 v3 v4 v5 v6 v7 v8 v9 v10 v11 v12 v13 v14 : Value} (s : SIp w g v0 v1 v2 v3 v4 v5 v6 v7 v8 v9 v10 v11 v12 v13 v14) (h2 : a.tmps[2]?.getD undef = .pointer (some ⟨g, 0, none⟩)) (hd : a.defers = [])
    (hR : R (.returned (.agg #[v0, v1, v2, v3, v4, v5, v6, v7, v8, v9, v10, v11, v12, v13, v14])) w) : bodyPost Try.prog Try.f19 R .ret a w := by
  obtain ⟨c0, c1, c2, c3, c4, c5, c6, c7, c8, c9, c10, c11, c12, c13, c14⟩ := s
  refine bodyPost_ret (v := .agg #[v0, v1, v2, v3, v4, v5, v6, v7, v8, v9, v10, v11, v12, v13, v14]) ?_ hd hR
  simp [results, Try.results19, go_sem, h2, c0, c1, c2, c3, c4, c5, c6, c7, c8, c9, c10, c11, c12, c13, c14]

set_option maxRecDepth 100000 in
set_option maxHeartbeats 2000000 in
theorem bare_true (f sf sh sl df dh dl pr ho : Int) (id of : Int) (mo : Bool) (xa : Option Addr) (xc : Nat) (da : Option Addr) (dat : List Int) (dc : Nat) (w : World) :
    Calls Try.prog 19 #[.agg #[.int .i64 f, .int .i64 sf, .int .u64 sh, .int .u64 sl, .int .i64 df, .int .u64 dh, .int .u64 dl, .int .i64 pr, .int .i64 ho, .bool true, .int .u32 id, .int .i64 of, .bool mo, .slice xa 0 xc, .slice da dat.length dc]] w fun e w' => e = .returned (.agg #[.int .i64 f, .int .i64 sf, .int .u64 sh, .int .u64 sl, .int .i64 df, .int .u64 dh, .int .u64 dl, .int .i64 pr, .int .i64 ho, .bool true, .int .u32 id, .int .i64 of, .bool mo, .slice xa 0 xc, .slice da dat.length dc]) ∧ Below w.heap.size w w' := by
  obtain ⟨W0, hW0⟩ : ∃ W0, (w.alloc (.cells #[.int .i64 f, .int .i64 sf, .int .u64 sh, .int .u64 sl, .int .i64 df, .int .u64 dh, .int .u64 dl, .int .i64 pr, .int .i64 ho, .bool true, .int .u32 id, .int .i64 of, .bool mo, .slice xa 0 xc, .slice da dat.length dc] 29)).alloc (.cells zIp 29) = W0 := ⟨_, rfl⟩
  have b1 : Below (w.alloc (.cells #[.int .i64 f, .int .i64 sf, .int .u64 sh, .int .u64 sl, .int .i64 df, .int .u64 dh, .int .u64 dl, .int .i64 pr, .int .i64 ho, .bool true, .int .u32 id, .int .i64 of, .bool mo, .slice xa 0 xc, .slice da dat.length dc] 29)).heap.size (w.alloc (.cells #[.int .i64 f, .int .i64 sf, .int .u64 sh, .int .u64 sl, .int .i64 df, .int .u64 dh, .int .u64 dl, .int .i64 pr, .int .i64 ho, .bool true, .int .u32 id, .int .i64 of, .bool mo, .slice xa 0 xc, .slice da dat.length dc] 29)) W0 := by rw [← hW0]; exact (Below.refl _ _).alloc (Nat.le_refl _) _
  have sp : SIp W0 w.heap.size (.int .i64 f) (.int .i64 sf) (.int .u64 sh) (.int .u64 sl) (.int .i64 df) (.int .u64 dh) (.int .u64 dl) (.int .i64 pr) (.int .i64 ho) (.bool true) (.int .u32 id) (.int .i64 of) (.bool mo) (.slice xa 0 xc) (.slice da dat.length dc) := (sIp_new w _ _ _ _ _ _ _ _ _ _ _ _ _ _ _).below (by simp) b1
  have fzp : ∀ o, W0.frozen? ⟨w.heap.size, o, none⟩ = false := fun o => (b1.frozen (p := ⟨w.heap.size, o, none⟩) (by simp)).trans (by simp)
  have Z : Hid (ZIp W0 (w.heap.size + 1)) := by
    have := zIp_new (w.alloc (.cells #[.int .i64 f, .int .i64 sf, .int .u64 sh, .int .u64 sl, .int .i64 df, .int .u64 dh, .int .u64 dl, .int .i64 pr, .int .i64 ho, .bool true, .int .u32 id, .int .i64 of, .bool mo, .slice xa 0 xc, .slice da dat.length dc] 29))
    rw [hW0, World.size_alloc] at this
    exact this
  have bb : Hid (Below w.heap.size w W0) := ((Below.refl _ _).alloc (Nat.le_refl _) _).trans (b1.mono (by simp))
  obtain ⟨e0, e1, e2, e3, e4, e5, e6, e7, e8, e9, e10, e11, e12, e13, e14, ez⟩ := Z.out
  obtain ⟨d0, d1, d2, d3, d4, d5, d6, d7, d8, d9, d10, d11, d12, d13, d14⟩ := sp
  clear b1
  go_enter Try.func19, Try.ntmps19
  go_wp2
  exact bare_ret (sIp_set Z.out _ _ _ _ _ _ _ _ _ _ _ _ _ _ _) rfl rfl ⟨rfl, set15_below bb.out (Nat.le_succ _) _ _ _ _ _ _ _ _ _ _ _ _ _ _ _⟩

set_option maxRecDepth 100000 in
set_option maxHeartbeats 2000000 in
theorem bare_false (f sf sh sl df dh dl pr ho : Int) (id of : Int) (mo : Bool) (xa : Option Addr) (xc : Nat) (da : Option Addr) (dat : List Int) (dc : Nat) (w : World) :
    Calls Try.prog 19 #[.agg #[.int .i64 f, .int .i64 sf, .int .u64 sh, .int .u64 sl, .int .i64 df, .int .u64 dh, .int .u64 dl, .int .i64 pr, .int .i64 ho, .bool false, .int .u32 id, .int .i64 of, .bool mo, .slice xa 0 xc, .slice da dat.length dc]] w fun e w' => e = .returned (.agg #[.int .i64 f, .int .i64 sf, .int .u64 sh, .int .u64 sl, .int .i64 df, .int .u64 dh, .int .u64 dl, .int .i64 pr, .int .i64 ho, .bool false, .int .u32 0, .int .i64 0, .bool false, .slice xa 0 xc, .slice da dat.length dc]) ∧ Below w.heap.size w w' := by
  obtain ⟨W0, hW0⟩ : ∃ W0, (w.alloc (.cells #[.int .i64 f, .int .i64 sf, .int .u64 sh, .int .u64 sl, .int .i64 df, .int .u64 dh, .int .u64 dl, .int .i64 pr, .int .i64 ho, .bool false, .int .u32 id, .int .i64 of, .bool mo, .slice xa 0 xc, .slice da dat.length dc] 29)).alloc (.cells zIp 29) = W0 := ⟨_, rfl⟩
  have b1 : Below (w.alloc (.cells #[.int .i64 f, .int .i64 sf, .int .u64 sh, .int .u64 sl, .int .i64 df, .int .u64 dh, .int .u64 dl, .int .i64 pr, .int .i64 ho, .bool false, .int .u32 id, .int .i64 of, .bool mo, .slice xa 0 xc, .slice da dat.length dc] 29)).heap.size (w.alloc (.cells #[.int .i64 f, .int .i64 sf, .int .u64 sh, .int .u64 sl, .int .i64 df, .int .u64 dh, .int .u64 dl, .int .i64 pr, .int .i64 ho, .bool false, .int .u32 id, .int .i64 of, .bool mo, .slice xa 0 xc, .slice da dat.length dc] 29)) W0 := by rw [← hW0]; exact (Below.refl _ _).alloc (Nat.le_refl _) _
  have sp : SIp W0 w.heap.size (.int .i64 f) (.int .i64 sf) (.int .u64 sh) (.int .u64 sl) (.int .i64 df) (.int .u64 dh) (.int .u64 dl) (.int .i64 pr) (.int .i64 ho) (.bool false) (.int .u32 id) (.int .i64 of) (.bool mo) (.slice xa 0 xc) (.slice da dat.length dc) := (sIp_new w _ _ _ _ _ _ _ _ _ _ _ _ _ _ _).below (by simp) b1
  have fzp : ∀ o, W0.frozen? ⟨w.heap.size, o, none⟩ = false := fun o => (b1.frozen (p := ⟨w.heap.size, o, none⟩) (by simp)).trans (by simp)
  have Z : Hid (ZIp W0 (w.heap.size + 1)) := by
    have := zIp_new (w.alloc (.cells #[.int .i64 f, .int .i64 sf, .int .u64 sh, .int .u64 sl, .int .i64 df, .int .u64 dh, .int .u64 dl, .int .i64 pr, .int .i64 ho, .bool false, .int .u32 id, .int .i64 of, .bool mo, .slice xa 0 xc, .slice da dat.length dc] 29))
    rw [hW0, World.size_alloc] at this
    exact this
  have bb : Hid (Below w.heap.size w W0) := ((Below.refl _ _).alloc (Nat.le_refl _) _).trans (b1.mono (by simp))
  obtain ⟨e0, e1, e2, e3, e4, e5, e6, e7, e8, e9, e10, e11, e12, e13, e14, ez⟩ := Z.out
  obtain ⟨d0, d1, d2, d3, d4, d5, d6, d7, d8, d9, d10, d11, d12, d13, d14⟩ := sp
  clear b1
  have b2 : Below w.heap.size w (((W0.setCell ⟨w.heap.size, 10, none⟩ (.int .u32 0)).setCell ⟨w.heap.size, 11, none⟩ (.int .i64 0)).setCell ⟨w.heap.size, 12, none⟩ (.bool false)) := ((bb.out.setCell (Nat.le_refl _) _).setCell (Nat.le_refl _) _).setCell (Nat.le_refl _) _
  have z2 : ZIp (((W0.setCell ⟨w.heap.size, 10, none⟩ (.int .u32 0)).setCell ⟨w.heap.size, 11, none⟩ (.int .i64 0)).setCell ⟨w.heap.size, 12, none⟩ (.bool false)) (w.heap.size + 1) := by
    obtain ⟨e0, e1, e2, e3, e4, e5, e6, e7, e8, e9, e10, e11, e12, e13, e14, ez⟩ := Z.out
    constructor
    all_goals first
      | (rw [put_other (by simp), put_other (by simp), put_other (by simp)]; assumption)
      | (intro o; simp [ez])
  go_enter Try.func19, Try.ntmps19
  go_wp2
  exact bare_ret (sIp_set z2 _ _ _ _ _ _ _ _ _ _ _ _ _ _ _) rfl rfl ⟨rfl, set15_below b2 (Nat.le_succ _) _ _ _ _ _ _ _ _ _ _ _ _ _ _ _⟩

theorem bare_any (f sf sh sl df dh dl pr ho : Int) (fg : Bool) (id of : Int) (mo : Bool) (ID OF : Int) (MO : Bool) (xa : Option Addr) (xc : Nat) (da : Option Addr) (dat : List Int) (dc : Nat) (w : World)
    (h : Pk.bare (⟨f, ⟨sf, sh, sl⟩, ⟨df, dh, dl⟩, pr, ho, fg, id, of, mo, dat⟩ : Pk) = ⟨f, ⟨sf, sh, sl⟩, ⟨df, dh, dl⟩, pr, ho, fg, ID, OF, MO, dat⟩) :
    Calls Try.prog 19 #[.agg #[.int .i64 f, .int .i64 sf, .int .u64 sh, .int .u64 sl, .int .i64 df, .int .u64 dh, .int .u64 dl, .int .i64 pr, .int .i64 ho, .bool fg, .int .u32 id, .int .i64 of, .bool mo, .slice xa 0 xc, .slice da dat.length dc]] w fun e w' => e = .returned (.agg #[.int .i64 f, .int .i64 sf, .int .u64 sh, .int .u64 sl, .int .i64 df, .int .u64 dh, .int .u64 dl, .int .i64 pr, .int .i64 ho, .bool fg, .int .u32 ID, .int .i64 OF, .bool MO, .slice xa 0 xc, .slice da dat.length dc]) ∧ Below w.heap.size w w' := by
  unfold Pk.bare at h
  cases fg
  · simp only [Bool.false_eq_true, if_false, Pk.mk.injEq, true_and, and_true] at h
    obtain ⟨rfl, rfl, rfl⟩ := h
    exact bare_false f sf sh sl df dh dl pr ho id of mo xa xc da dat dc w
  · simp only [if_true, Pk.mk.injEq, true_and, and_true] at h
    obtain ⟨rfl, rfl, rfl⟩ := h
    exact bare_true f sf sh sl df dh dl pr ho id of mo xa xc da dat dc w

end Go.Proofs.Ytpcdmjjlgoeglaa
