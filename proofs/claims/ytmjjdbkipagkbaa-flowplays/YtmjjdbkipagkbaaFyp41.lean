/- Texts joined: FwS -/
import Derived.Test.YtmjjdbkipagkbaaFyp40
namespace Go.Proofs.Ytmjjdbkipagkbaa
open Go.RowKit
set_option linter.unusedVariables false
set_option linter.unusedSimpArgs false
structure TabX (w : World) (tb mb : Nat) (s : Ft) : Prop where
  ex : ∃ G, TabF w tb mb s G
theorem TabX.ok {w : World} {tb mb : Nat} {s : Ft} (h : TabX w tb mb s) : FtOk s := by obtain ⟨G, T⟩ := h.ex; exact T.ok
theorem TabX.lt {w : World} {tb mb : Nat} {s : Ft} (h : TabX w tb mb s) : tb < w.heap.size ∧ mb < w.heap.size := by obtain ⟨G, T⟩ := h.ex; exact ⟨T.tab.lt, T.map.lt⟩
theorem TabX.but {F : Nat → Prop} {w w' : World} {tb mb : Nat} {s : Ft} (h : TabX w tb mb s) (b : But F w w') (h1 : ¬ F tb) (h2 : ¬ F mb) : TabX w' tb mb s := by obtain ⟨G, T⟩ := h.ex; exact ⟨G, T.but b h1 h2⟩
theorem TabX.kept {w w' : World} {tb mb : Nat} {s : Ft} (h : TabX w tb mb s) (b : Below w.heap.size w w') : TabX w' tb mb s := h.but (But.of_below b (fun _ => False)) (fun x => x) (fun x => x)
theorem TabX.al {w w' : World} {tb mb : Nat} {s : Ft} {o : Obj} (h : TabX w tb mb s) (e : w.alloc o = w') : TabX w' tb mb s := h.kept (bel_nw e)
theorem TabX.drew {w : World} {tb mb : Nat} {s : Ft} (h : TabX w tb mb s) : TabX w.drew tb mb s := h.kept (Below.refl _ _).drew
theorem TabX.other {w : World} {tb mb g : Nat} {s : Ft} (h : TabX w tb mb s) (hn : tb ≠ g ∧ mb ≠ g) (cs : Array Value) : TabX (w.setRow g cs) tb mb s := h.but ((But.refl (fun k => k = g) w).setRow g (.inl rfl) cs) hn.1 hn.2
theorem putX (tb mb : Nat) (s : Ft) (f : Fl) (w : World) (T : TabX w tb mb s) (hk : f.w.kf) : Calls Try.prog 25 #[.pointer (some ⟨tb, 0, none⟩), .agg f.v] w fun e w' => e = .returned (.int .i64 (s.put f).2) ∧ TabX w' tb mb (s.put f).1 ∧ But (fun k => k = tb ∨ k = mb) w w' := by
  obtain ⟨G, T⟩ := T.ex
  exact (put_at_fw tb mb s G f w T hk).mono fun e w' ⟨h1, h2, h3⟩ => ⟨h1, ⟨h2⟩, h3⟩
theorem tickX (tb mb : Nat) (s : Ft) (now : Int) (w : World) (T : TabX w tb mb s) : Calls Try.prog 24 #[.pointer (some ⟨tb, 0, none⟩), .int .i64 now] w fun e w' => e = .returned (.int .i64 (s.tick now).2) ∧ TabX w' tb mb (s.tick now).1 ∧ But (fun k => k = tb ∨ k = mb) w w' := by
  obtain ⟨G, T⟩ := T.ex
  exact (tick_at_fw tb mb s G now w T).mono fun e w' ⟨h1, h2, h3⟩ => ⟨h1, ⟨h2⟩, h3⟩
theorem dropX (tb mb : Nat) (s : Ft) (q : Wy) (w : World) (T : TabX w tb mb s) (hk : q.kf) : Calls Try.prog 29 #[.pointer (some ⟨tb, 0, none⟩), .agg q.v] w fun e w' => e = .returned (.bool (s.drop q).2) ∧ TabX w' tb mb (s.drop q).1 ∧ But (fun k => k = tb ∨ k = mb) w w' := by
  obtain ⟨G, T⟩ := T.ex
  exact (drop_at_fw tb mb s G q w T hk).mono fun e w' ⟨h1, h2, h3⟩ => ⟨h1, ⟨h2⟩, h3⟩
theorem findX (tb mb : Nat) (s : Ft) (q : Wy) (w : World) (T : TabX w tb mb s) (hk : q.kf) : Calls Try.prog 26 #[.pointer (some ⟨tb, 0, none⟩), .agg q.v] w fun e w' => e = .returned (.tuple #[.agg (s.find q).1.v, .int .i64 (s.find q).2.1, .bool (s.find q).2.2]) ∧ Below w.heap.size w w' := by
  obtain ⟨G, T⟩ := T.ex
  exact find_at_fw tb mb s G q w T T.ne T.tab T.map hk
theorem lenX (tb mb : Nat) (s : Ft) (w : World) (T : TabX w tb mb s) : Calls Try.prog 20 #[.pointer (some ⟨tb, 0, none⟩)] w fun e w' => e = .returned (.int .i64 (s.L.length : Int)) ∧ Below w.heap.size w w' := by
  obtain ⟨G, T⟩ := T.ex
  exact len_at_fw tb mb s G w T T.ne T.tab T.map
theorem nowX (tb mb : Nat) (s : Ft) (w : World) (T : TabX w tb mb s) : Calls Try.prog 21 #[.pointer (some ⟨tb, 0, none⟩)] w fun e w' => e = .returned (.int .i64 s.now) ∧ Below w.heap.size w w' := by
  obtain ⟨G, T⟩ := T.ex
  exact now_at_fw tb mb s G w T T.ne T.tab T.map
theorem allX (tb mb : Nat) (s : Ft) (w : World) (T : TabX w tb mb s) : Calls Try.prog 23 #[.pointer (some ⟨tb, 0, none⟩)] w fun e w' => ∃ a c, e = .returned (.slice a s.L.length c) ∧ OwnL w' w.heap.size a c s.L ∧ Below w.heap.size w w' := by
  obtain ⟨G, T⟩ := T.ex
  exact all_at_fw tb mb s G w T
set_option maxRecDepth 100000 in
theorem new_y0 (m : Int) (h0 : 0 ≤ m) (h1 : m ≤ 256) (w : World) : Calls Try.prog 17 #[.int .i64 m] w fun e w' => e = .returned (.tuple #[.pointer (some ⟨w.heap.size + 1, 0, none⟩), .int .i64 0]) ∧ TabX w' (w.heap.size + 1) w.heap.size ⟨m, 0, []⟩ ∧ Below w.heap.size w w' := by
  have hmm := @run_makeMap Try.prog
  obtain ⟨W1, hW1⟩ : ∃ W, w.alloc (.map #[] 0) = W := ⟨_, rfl⟩
  have z1 : W1.heap.size = w.heap.size + 1 := by rw [← hW1]; simp
  have b1 := bel_nw hW1
  have M1 : MapF W1 w.heap.size [] := ⟨by rw [← hW1]; exact World.ownsMap_made w _ _ _⟩
  obtain ⟨W2, hW2⟩ : ∃ W, W1.alloc (.cells (tabV ⟨m, 0, []⟩ w.heap.size) 77) = W := ⟨_, rfl⟩
  have b2 := bel_al b1 hW2
  have M2 := M1.al hW2
  have T2 := blk_nw hW2
  have hb : (Instr.build 77 #[(0, .bool true), (1, .int .i64 m), (3, .map (some w.heap.size))]).run Try.prog W1 = .ok (.agg (tabV ⟨m, 0, []⟩ w.heap.size)) W1 := by kernel_rfl
  have i0 : ¬ m < 0 := by omega
  have i1 : ¬ m > 256 := by omega
  go_enter Try.func17, Try.ntmps17
  go_wp2
  go_ret2
  rw [z1] at T2
  exact ⟨rfl, ⟨_, T2, M2, by omega, new_ok ⟨h0, h1⟩, List.Pairwise.nil, by simp, by simp⟩, b2⟩
theorem new_y_fw (m : Int) (h0 : 0 ≤ m) (h1 : m ≤ 256) (w : World) : Calls Try.prog 17 #[.int .i64 m] w fun e w' => ∃ tb mb, e = .returned (.tuple #[.pointer (some ⟨tb, 0, none⟩), .int .i64 0]) ∧ TabX w' tb mb ⟨m, 0, []⟩ ∧ w.heap.size ≤ tb ∧ w.heap.size ≤ mb ∧ Below w.heap.size w w' :=
  (new_y0 m h0 h1 w).mono fun e w' ⟨h1, h2, h3⟩ => ⟨_, _, h1, h2, Nat.le_succ _, Nat.le_refl _, h3⟩
theorem new_n_fw (m : Int) (h : ¬ (0 ≤ m ∧ m ≤ 256)) (w : World) : Calls Try.prog 17 #[.int .i64 m] w fun e w' => e = .returned (.tuple #[.pointer none, .int .i64 1]) ∧ Below w.heap.size w w' := by
  go_enter Try.func17, Try.ntmps17
  by_cases h0 : m < 0
  · go_wp2
    go_ret2
    exact ⟨rfl, Below.refl _ _⟩
  · have h1 : m > 256 := by omega
    go_wp2
    go_ret2
    exact ⟨rfl, Below.refl _ _⟩
end Go.Proofs.Ytmjjdbkipagkbaa
