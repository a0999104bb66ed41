/- Texts joined: XpP -/
import Derived.Test.YtmflogmocgbmhaaXpa24
namespace Go.Proofs.Ytmflogmocgbmhaa
open Go.RowKit
set_option linter.unusedVariables false
set_option linter.unusedSimpArgs false
structure TabO (w : World) (tb : Nat) (s : Xt) (a : Option Addr) (c : Nat) : Prop where
  tab : Blk w tb 61 (tabW s a c)
  own : OwnW w 0 a c s.L
  ne : ∀ y : Addr, a = some y → y.block ≠ tb
/-- A table at tb whose list lies in the block lb. -/
structure TabX (w : World) (tb lb : Nat) (s : Xt) : Prop where
  ok : XtOk s
  lt : tb < w.heap.size ∧ lb < w.heap.size
  ex : ∃ a c, TabO w tb s a c ∧ ∀ y : Addr, a = some y → y.block = lb
theorem TabX.but {F : Nat → Prop} {w w' : World} {tb lb : Nat} {s : Xt} (h : TabX w tb lb s) (b : But F w w') (h1 : ¬ F tb) (h2 : ¬ F lb) : TabX w' tb lb s := by
  obtain ⟨a, c, T, hl⟩ := h.ex
  exact ⟨h.ok, ⟨Nat.lt_of_lt_of_le h.lt.1 b.size, Nat.lt_of_lt_of_le h.lt.2 b.size⟩, a, c, ⟨T.tab.but b h1, T.own.but b (fun y hy => by rw [hl y hy]; exact h2), T.ne⟩, hl⟩
theorem TabX.kept {w w' : World} {tb lb : Nat} {s : Xt} (h : TabX w tb lb s) (b : Below w.heap.size w w') : TabX w' tb lb s := h.but (But.of_below b (fun _ => False)) (fun x => x) (fun x => x)
theorem TabX.al {w w' : World} {tb lb : Nat} {s : Xt} {o : Obj} (h : TabX w tb lb s) (e : w.alloc o = w') : TabX w' tb lb s := h.kept (bel_nw e)
theorem TabX.drew {w : World} {tb lb : Nat} {s : Xt} (h : TabX w tb lb s) : TabX w.drew tb lb s := h.kept (Below.refl _ _).drew
theorem TabX.other {w : World} {tb lb g : Nat} {s : Xt} (h : TabX w tb lb s) (hn : tb ≠ g ∧ lb ≠ g) (cs : Array Value) : TabX (w.setRow g cs) tb lb s := h.but ((But.refl (fun k => k = g) w).setRow g (.inl rfl) cs) hn.1 hn.2
theorem TabX.put_other {w : World} {tb lb g : Nat} {s : Xt} {t : TypeId} {cs : Array Value} (h : TabX w tb lb s) (_ : Blk w g t cs) (hn : tb ≠ g ∧ lb ≠ g) (i : Nat) (v : Value) : TabX (w.setCell ⟨g, i, none⟩ v) tb lb s := h.but ((But.refl (fun k => k = g) w).setCell g i (.inl rfl) v) hn.1 hn.2
theorem But.mono {F G : Nat → Prop} {w w' : World} (h : But F w w') (hf : ∀ n, F n → G n) : But G w w' := (But.refl G w).trans h (fun n _ x => hf n x)
theorem XtOk.len {s : Xt} (h : XtOk s) : s.L.length ≤ 1000000 := by have := h.few; have := h.most; omega
theorem TabX.len {w : World} {tb lb : Nat} {s : Xt} (h : TabX w tb lb s) : s.L.length ≤ 1000000 := h.ok.len
theorem fo_lb {a : Option Addr} {tb lb : Nat} (hl : ∀ y : Addr, a = some y → y.block = lb) : ∀ n, (n = tb ∨ a.map (·.block) = some n) → n = tb ∨ n = lb := fun n h => h.imp id fun e => by
  cases ha : a with
  | none => rw [ha] at e; cases e
  | some y => rw [ha] at e; injection e with e; exact e.symm.trans (hl y ha)
theorem own_at {w : World} {a : Option Addr} {c lb k : Nat} {l : List Wt} {q : Wt} (h : OwnW w 0 a c l) (hl : ∀ y : Addr, a = some y → y.block = lb) (hq : l[k]? = some q) : a = some ⟨lb, 0, none⟩ := by
  have hk := (List.getElem?_eq_some_iff.1 hq).1
  rcases h.2 with ⟨_, h6⟩ | ⟨g, cap', cur, h6, _⟩
  · omega
  · simp only [Value.slice.injEq] at h6
    have := hl ⟨g, 0, none⟩ h6.1
    rw [h6.1, ← this]
set_option maxHeartbeats 1000000 in
theorem addX (tb lb : Nat) (s : Xt) (f : Wt) (w : World) (X : TabX w tb lb s) (ho : f.ok) : Calls Try.prog 25 #[.pointer (some ⟨tb, 0, none⟩), .agg f.v] w fun e w' => ∃ lb', e = .returned (.int .i64 (s.add f).2) ∧ TabX w' tb lb' (s.add f).1 ∧ (lb' = lb ∨ w.heap.size ≤ lb') ∧ But (fun k => k = tb ∨ k = lb) w w' := by
  obtain ⟨a, c, T, hl⟩ := X.ex
  have ok2 := X.ok.add ho
  cases hi : ixW f.w s.L with
  | none =>
    refine (addN_xp tb s a c f w T.tab T.own T.ne X.len hi).mono ?_
    rintro e w' ⟨a', c', rfl, T2, O2, hy, b⟩
    have b2 := b.mono (fo_lb hl)
    refine ⟨(a'.map (·.block)).getD lb, rfl, ⟨ok2, ⟨Nat.lt_of_lt_of_le X.lt.1 b.size, ?_⟩, a', c', ⟨T2, O2, fun y h => (hy y h).1⟩, fun y h => by rw [h]; rfl⟩, ?_, b2⟩
    · cases ha : a' with
      | none => exact Nat.lt_of_lt_of_le X.lt.2 b.size
      | some y => exact O2.lt_size y ha
    · cases ha : a' with
      | none => exact .inl rfl
      | some y =>
        refine (hy y ha).2.imp (fun e => ?_) id
        rcases fo_lb (tb := tb) hl y.block (.inr e) with h | h
        · exact absurd h (hy y ha).1
        · exact h
  | some k =>
    obtain ⟨q, hq, _, _⟩ := ix_some hi
    obtain rfl := own_at T.own hl hq
    refine (addS_xp tb lb s c k q f w T.tab T.own (fun e => T.ne _ rfl e.symm) hq X.len hi).mono ?_
    rintro e w' ⟨rfl, T2, O2, b⟩
    exact ⟨lb, rfl, ⟨ok2, ⟨Nat.lt_of_lt_of_le X.lt.1 b.size, Nat.lt_of_lt_of_le X.lt.2 b.size⟩, _, c, ⟨T2, O2, T.ne⟩, hl⟩, .inl rfl, b⟩
theorem take_eq {s : Xt} {x : Wy} {k : Nat} {q : Wt} (h : waitW x s.L = some k) (hq : s.L[k]? = some q) : s.take x = (⟨s.most, s.quota, s.now, s.L.filter fun p : Wt => !(p.w.eqB q.w)⟩, q, true) := by
  unfold Xt.take
  rw [h]
  show ((⟨s.most, s.quota, s.now, s.L.filter fun p : Wt => !(p.w.eqB (s.L.getD k wt0).w)⟩, s.L.getD k wt0, true) : Xt × Wt × Bool) = _
  rw [getD_at hq]
set_option maxHeartbeats 1000000 in
theorem takeX (tb lb : Nat) (s : Xt) (x : Wy) (w : World) (X : TabX w tb lb s) : Calls Try.prog 22 #[.pointer (some ⟨tb, 0, none⟩), .agg x.v] w fun e w' => e = .returned (.tuple #[.agg (s.take x).2.1.v, .bool (s.take x).2.2]) ∧ TabX w' tb lb (s.take x).1 ∧ But (fun k => k = tb ∨ k = lb) w w' := by
  obtain ⟨a, c, T, hl⟩ := X.ex
  have ok2 := X.ok.take x
  cases hi : waitW x s.L with
  | none =>
    have e0 : s.take x = (s, wt0, false) := by unfold Xt.take; rw [hi]
    refine (takeN_xp tb s a c x w T.tab T.own T.ne X.len hi).mono ?_
    rintro e w' ⟨rfl, b⟩
    rw [e0]
    exact ⟨rfl, X.kept b, But.of_below b _⟩
  | some k =>
    obtain ⟨q, hq, _, _⟩ := wait_some hi
    obtain rfl := own_at T.own hl hq
    rw [take_eq hi hq] at ok2 ⊢
    refine (takeS_xp tb lb s c k q x w T.tab T.own (fun e => T.ne _ rfl e.symm) hq X.len hi).mono ?_
    rintro e w' ⟨rfl, T2, O2, b⟩
    exact ⟨rfl, ⟨ok2, ⟨Nat.lt_of_lt_of_le X.lt.1 b.size, Nat.lt_of_lt_of_le X.lt.2 b.size⟩, _, c, ⟨T2, O2, T.ne⟩, hl⟩, b⟩
theorem forgetX (tb lb : Nat) (s : Xt) (m : Wy) (w : World) (X : TabX w tb lb s) : Calls Try.prog 27 #[.pointer (some ⟨tb, 0, none⟩), .agg m.v] w fun e w' => e = .returned (.int .i64 (s.forget m).2) ∧ TabX w' tb lb (s.forget m).1 ∧ But (fun k => k = tb ∨ k = lb) w w' := by
  obtain ⟨a, c, T, hl⟩ := X.ex
  refine (forget_xp tb s a c m w T.tab T.own T.ne X.len).mono ?_
  rintro e w' ⟨rfl, T2, O2, b⟩
  exact ⟨rfl, ⟨X.ok.forget m, ⟨Nat.lt_of_lt_of_le X.lt.1 b.size, Nat.lt_of_lt_of_le X.lt.2 b.size⟩, a, c, ⟨T2, O2, T.ne⟩, hl⟩, b.mono (fo_lb hl)⟩
theorem tickX (tb lb : Nat) (s : Xt) (n : Int) (w : World) (X : TabX w tb lb s) : Calls Try.prog 24 #[.pointer (some ⟨tb, 0, none⟩), .int .i64 n] w fun e w' => e = .returned (.int .i64 (s.tick n).2) ∧ TabX w' tb lb (s.tick n).1 ∧ But (fun k => k = tb ∨ k = lb) w w' := by
  obtain ⟨a, c, T, hl⟩ := X.ex
  refine (tick_xp tb s a c n w T.tab T.own T.ne X.len).mono ?_
  rintro e w' ⟨rfl, T2, O2, b⟩
  exact ⟨rfl, ⟨X.ok.tick n, ⟨Nat.lt_of_lt_of_le X.lt.1 b.size, Nat.lt_of_lt_of_le X.lt.2 b.size⟩, a, c, ⟨T2, O2, T.ne⟩, hl⟩, b.mono (fo_lb hl)⟩
theorem allX (tb lb : Nat) (s : Xt) (w : World) (X : TabX w tb lb s) : Calls Try.prog 19 #[.pointer (some ⟨tb, 0, none⟩)] w fun e w' => ∃ a c, e = .returned (.slice a s.L.length c) ∧ OwnW w' w.heap.size a c s.L ∧ Below w.heap.size w w' := by
  obtain ⟨a, c, T, hl⟩ := X.ex
  exact all_xp tb s a c w T.tab T.own T.ne X.len
theorem lenX (tb lb : Nat) (s : Xt) (w : World) (X : TabX w tb lb s) : Calls Try.prog 20 #[.pointer (some ⟨tb, 0, none⟩)] w fun e w' => e = .returned (.int .i64 (s.L.length : Int)) ∧ Below w.heap.size w w' := by
  obtain ⟨a, c, T, hl⟩ := X.ex
  exact len_xp tb s a c w T.tab
theorem nowX (tb lb : Nat) (s : Xt) (w : World) (X : TabX w tb lb s) : Calls Try.prog 21 #[.pointer (some ⟨tb, 0, none⟩)] w fun e w' => e = .returned (.int .i64 s.now) ∧ Below w.heap.size w w' := by
  obtain ⟨a, c, T, hl⟩ := X.ex
  exact now_xp tb s a c w T.tab
theorem cap_iff {n : Int} : capX n = true ↔ 0 ≤ n ∧ n ≤ 256 := by unfold capX; simp
theorem newX (m q : Int) (hm : capX m = true) (hq : capX q = true) (w : World) : Calls Try.prog 15 #[.int .i64 m, .int .i64 q] w fun e w' => ∃ tb, e = .returned (.tuple #[.pointer (some ⟨tb, 0, none⟩), .int .i64 0]) ∧ TabX w' tb tb ⟨m, q, 0, []⟩ ∧ w.heap.size ≤ tb ∧ Below w.heap.size w w' := by
  refine (newY_xp m q w hm hq).mono ?_
  rintro e w' ⟨tb, rfl, T, h, b⟩
  exact ⟨tb, rfl, ⟨xt_new (cap_iff.1 hm) (cap_iff.1 hq), ⟨T.lt, T.lt⟩, none, 0, ⟨T, ⟨rfl, .inl ⟨rfl, rfl⟩⟩, fun y hy => by cases hy⟩, fun y hy => by cases hy⟩, h, b⟩
end Go.Proofs.Ytmflogmocgbmhaa
