/- Texts joined: WkA KeyL -/
import Derived.Test.YtmjjdbkipagkbaaFyp4
import Derived.Test.YtmjjdbkipagkbaaFyp7
import Derived.DeepKeys4
namespace Go.Proofs.Ytmjjdbkipagkbaa
open Go.RowKit
set_option linter.unusedVariables false
set_option linter.unusedSimpArgs false
theorem bne_t_fw {a b : Int} (h : (a != b) = true) : (a == b) = false := by simpa using h
theorem bne_f_fw {a b : Int} (h : (a != b) = false) : (a == b) = true := by simpa using h
theorem retB_fw {a b : Bool} (h : a = b) : Ending.returned (.bool a) = Ending.returned (.bool b) := by rw [h]
theorem retN_fw {k : IntKind} {a b : Int} (h : a = b) : Ending.returned (.int k a) = Ending.returned (.int k b) := by rw [h]
set_option maxRecDepth 100000 in
set_option maxHeartbeats 4000000 in
theorem neq_way (a b : Wy) (w : World) : (Go.binOp .neq 26 (.agg a.v) (.agg b.v)).run Try.prog w = Result.ok (.bool (!(a.eqB b))) w := by
  obtain ⟨f, pr, ⟨sf, sh, sl⟩, ⟨df, dh, dl⟩, sp, dp⟩ := a
  obtain ⟨f', pr', ⟨sf', sh', sl'⟩, ⟨df', dh', dl'⟩, sp', dp'⟩ := b
  unfold Wy.eqB
  simp only
  by_cases h1 : f = f'
  case neg => simp [go_sem, h1]
  subst h1
  by_cases h2 : pr = pr'
  case neg => simp [go_sem, h2]
  subst h2
  by_cases h3 : sf = sf'
  case neg => simp [go_sem, h3]
  subst h3
  by_cases h4 : sh = sh'
  case neg => simp [go_sem, h4]
  subst h4
  by_cases h5 : sl = sl'
  case neg => simp [go_sem, h5]
  subst h5
  by_cases h6 : df = df'
  case neg => simp [go_sem, h6]
  subst h6
  by_cases h7 : dh = dh'
  case neg => simp [go_sem, h7]
  subst h7
  by_cases h8 : dl = dl'
  case neg => simp [go_sem, h8]
  subst h8
  by_cases h9 : sp = sp'
  case neg => simp [go_sem, h9]
  subst h9
  by_cases h : dp = dp' <;> simp [go_sem, h]
theorem ret_cell_tmp2 {R : Ending → World → Prop} {a : Act} {w : World} {g k j i : Nat} {t : TypeId} {cs : Array Value} {v u : Value} (fn : Func) (hf : fn.results = #[.cell k t, .tmp j, .tmp i]) (h : Blk w g t cs) {fs : _} (hu : Try.prog.underlying t = some (.struct fs)) (hi : (Try.prog.info? t).map (·.size) = some cs.size)
    (h2 : a.tmps[k]?.getD undef = .pointer (some ⟨g, 0, none⟩)) (h3 : a.tmps[j]?.getD undef = v) (h4 : a.tmps[i]?.getD undef = u) (hdf : a.defers = []) (hR : R (.returned (.tuple #[.agg cs, v, u])) w) : bodyPost Try.prog fn R .ret a w := by
  refine bodyPost_ret (v := .tuple #[.agg cs, v, u]) ?_ hdf hR
  have hl := load_blk h hu hi
  simp [results, hf, h2, h3, h4, asAddr, hl, Array.mapM_eq_mapM_toList]
theorem but_al {F : Nat → Prop} {w W W' : World} {o : Obj} (h : But F w W) (e : W.alloc o = W') : But F w W' := h.below (bel_nw e)
theorem but_setRow {F : Nat → Prop} {w W : World} (h : But F w W) {g : Nat} (hg : F g ∨ w.heap.size ≤ g) (cs : Array Value) : But F w (W.setRow g cs) := h.setRow g hg cs
theorem But.drew {F : Nat → Prop} {w W : World} (h : But F w W) : But F w W.drew := h.below (Below.refl _ _).drew
theorem But.al {F : Nat → Prop} {w W W' : World} {o : Obj} (h : But F w W) (e : W.alloc o = W') : But F w W' := but_al h e
theorem But.kept {F : Nat → Prop} {w W W' : World} (h : But F w W) (b : Below W.heap.size W W') : But F w W' := h.below b
theorem But.other {F : Nat → Prop} {w W : World} (h : But F w W) {g : Nat} (hg : F g ∨ w.heap.size ≤ g) (cs : Array Value) : But F w (W.setRow g cs) := h.setRow g hg cs
theorem But.put_other {F : Nat → Prop} {w W : World} {g : Nat} {t : TypeId} {cs : Array Value} (h : But F w W) (_ : Blk W g t cs) (hg : F g ∨ w.heap.size ≤ g) (i : Nat) (v : Value) : But F w (W.setCell ⟨g, i, none⟩ v) := h.setCell g i hg v
theorem But.own {F : Nat → Prop} {w a b : World} (h : But F w a) (bl : Below w.heap.size a b) : But F w b := ⟨bl.os.trans h.os, bl.tape.trans h.tape, bl.output.trans h.output, Nat.le_trans h.size bl.size, fun k hk hn => (bl.block k hk).trans (h.block k hk hn)⟩
end Go.Proofs.Ytmjjdbkipagkbaa
namespace Go.Proofs.Ytmjjdbkipagkbaa
open Go.RowKit Go.Maps Go.WideMaps
set_option linter.unusedVariables false
set_option linter.unusedSimpArgs false
/-- An element is read as it is. -/
def heldElem (v : Value) : Option (DataW Value × List MemPlace) := some (.held v, [])
def ins {α : Type} (x : Lit × α) : List (Lit × α) → List (Lit × α)
  | [] => [x]
  | y :: r => if x.1.before y.1 then x :: y :: r else y :: ins x r
def strike {α : Type} (k : Lit) (E : List (Lit × α)) : List (Lit × α) := E.filter fun p => !p.1.sameKey k
def look {α : Type} (k : Lit) (E : List (Lit × α)) : Option α := (E.find? fun p => p.1.sameKey k).map (·.2)
theorem ins_perm {α : Type} (x : Lit × α) : ∀ l : List (Lit × α), (ins x l).Perm (x :: l)
  | [] => .refl _
  | y :: r => by
    unfold ins
    split
    · exact .refl _
    · exact ((ins_perm x r).cons y).trans (.swap x y r)
theorem ins_data {α : Type} (f : α → DataW Value) (x : Lit × α) : ∀ l : List (Lit × α), (ins x l).map (fun p => (p.1, f p.2)) = DataW.insert (x.1, f x.2) (l.map fun p => (p.1, f p.2))
  | [] => rfl
  | y :: r => by
    have ih := ins_data f x r
    unfold ins DataW.insert
    simp only [List.map_cons]
    cases h : x.1.before y.1
    · simp [ih]
    · simp
theorem strike_map {α β : Type} (f : α → β) (k : Lit) (l : List (Lit × α)) : (strike k l).map (fun p => (p.1, f p.2)) = strike k (l.map fun p => (p.1, f p.2)) := by
  unfold strike
  rw [List.filter_map]
  rfl
theorem look_mem {α : Type} {k : Lit} {l : List (Lit × α)} {x : α} (h : look k l = some x) : (k, x) ∈ l := by
  unfold look at h
  cases hf : l.find? (fun p => p.1.sameKey k) with
  | none => rw [hf] at h; cases h
  | some p =>
    rw [hf] at h
    have h1 := List.mem_of_find?_eq_some hf
    have h2 := List.find?_some hf
    have h3 : p.1 = k := WideAt.sameKey_eq h2
    obtain ⟨a, b⟩ := p
    cases h
    cases h3
    exact h1
theorem mem_strike {α : Type} {k : Lit} {l : List (Lit × α)} {p : Lit × α} (h : p ∈ strike k l) : p ∈ l := (List.mem_filter.1 h).1
theorem strike_ne {α : Type} {k : Lit} (hk : WideAt.IsKeyLit k) {l : List (Lit × α)} {p : Lit × α} (h : p ∈ strike k l) : p.1 ≠ k := fun e => by
  have := (List.mem_filter.1 h).2
  rw [e, WideAt.sameKey_self hk] at this
  cases this
abbrev Keys {α : Type} (E : List (Lit × α)) : Prop := E.Pairwise fun p q => p.1 ≠ q.1
theorem keys_ins {α : Type} {k : Lit} (hk : WideAt.IsKeyLit k) (x : α) {E : List (Lit × α)} (h : Keys E) : Keys (ins (k, x) (strike k E)) :=
  ((ins_perm (k, x) (strike k E)).pairwise_iff (fun {a b} (h : a.1 ≠ b.1) => h.symm)).2 (List.pairwise_cons.2 ⟨fun q hq e => strike_ne hk hq e.symm, h.filter _⟩)
theorem same_eq {a k : Lit} (h : a.sameKey k = true) : a = k := by
  have := look_mem (k := k) (l := [(a, ())]) (x := ()) (by simp [look, h])
  simp at this
  exact this.symm
theorem same_self' {k : Lit} (hk : WideAt.IsKeyLit k) : k.sameKey k = true := by
  cases h : k.sameKey k with
  | true => rfl
  | false =>
    have : (k, ()) ∈ strike k [(k, ())] := by simp [strike, h]
    exact absurd rfl (strike_ne hk this)
theorem look_iff {α : Type} {k : Lit} (hk : WideAt.IsKeyLit k) : ∀ {E : List (Lit × α)}, Keys E → ∀ {x : α}, (k, x) ∈ E → look k E = some x
  | [], _, _, h => by cases h
  | e :: E, hE, x, h => by
    have hE' := List.pairwise_cons.1 hE
    rcases List.mem_cons.1 h with h | h
    · rw [← h]
      simp [look, same_self' hk]
    · have hne : e.1.sameKey k = false := by
        cases hs : e.1.sameKey k with
        | false => rfl
        | true => exact absurd (same_eq hs) (hE'.1 (k, x) h)
      have := look_iff hk hE'.2 h
      unfold look at this ⊢
      rw [List.find?_cons, hne]
      exact this
end Go.Proofs.Ytmjjdbkipagkbaa
