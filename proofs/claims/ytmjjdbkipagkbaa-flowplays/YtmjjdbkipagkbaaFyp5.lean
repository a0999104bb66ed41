/- Texts joined: FwB Arg2 -/
import Derived.Test.YtmjjdbkipagkbaaFyp4
import Derived.Test.YtmjjdbkipagkbaaRows
import Derived.ProofKit
import Derived.OpenShut
import Derived.Lib.SmallJoins
import Derived.Lib.LaidTab
import Derived.Stop.LaidErr
import Derived.Deep.DeepHandedRow
import Derived.Deep.Strs
import Derived.ChangeSame
import Derived.Shelf.LaysM
namespace Go.Proofs.Ytmjjdbkipagkbaa
open Go.RowKit
set_option linter.unusedVariables false
set_option linter.unusedSimpArgs false
/-- All numbers of a way lie in their kinds. -/
structure Wy.kf (t : Wy) : Prop where
  ok : t.ok
  fam : -9223372036854775808 ≤ t.fam ∧ t.fam ≤ 9223372036854775807
  pr : -9223372036854775808 ≤ t.pr ∧ t.pr ≤ 9223372036854775807
  sp : -9223372036854775808 ≤ t.sp ∧ t.sp ≤ 9223372036854775807
  dp : -9223372036854775808 ≤ t.dp ∧ t.dp ≤ 9223372036854775807
theorem Wy.kf_rev {t : Wy} (h : t.kf) : t.rev.kf := ⟨Wy.ok_rev h.ok, h.fam, h.pr, h.dp, h.sp⟩
theorem eqB_false {a b : Wy} : a.eqB b = false ↔ a ≠ b := by
  rw [← Bool.not_eq_true, Wy.eqB_iff]
theorem rev_iff {a b : Wy} : a.rev = b ↔ a = b.rev := ⟨fun h => by rw [← h, Wy.rev_rev], fun h => by rw [h, Wy.rev_rev]⟩
structure Ft where
  most : Int
  now : Int
  L : List Fl
def atF (w : Wy) (L : List Fl) : Option Fl := L.find? fun f => f.w.eqB w
def Ft.find (s : Ft) (w : Wy) : Fl × Int × Bool :=
  match atF w s.L with
  | some f => (f, 0, true)
  | none => match atF w.rev s.L with
    | some f => (f, 1, true)
    | none => (fl0, 0, false)
def insF (f : Fl) : List Fl → List Fl
  | [] => [f]
  | g :: r => if g.w.order f.w < 0 then g :: insF f r else f :: g :: r
def setF (f : Fl) (L : List Fl) : List Fl := L.map fun g => if g.w.eqB f.w then f else g
def delF (w : Wy) (L : List Fl) : List Fl := L.filter fun g => !g.w.eqB w
def keepF (now : Int) (L : List Fl) : List Fl := L.filter fun f => decide (now < f.ends)
def Ft.put (s : Ft) (f : Fl) : Ft × Int :=
  if !(f.right && decide (s.now < f.ends)) then (s, 1)
  else if (atF f.w s.L).isSome then ({ s with L := setF f s.L }, 0)
  else if (atF f.w.rev s.L).isSome then (s, 15)
  else if s.most ≤ s.L.length then (s, 12)
  else ({ s with L := insF f s.L }, 0)
def Ft.drop (s : Ft) (w : Wy) : Ft × Bool :=
  if (atF w s.L).isSome then ({ s with L := delF w s.L }, true)
  else if (atF w.rev s.L).isSome then ({ s with L := delF w.rev s.L }, true)
  else (s, false)
def Ft.tick (s : Ft) (now : Int) : Ft × Int :=
  if now < s.now ∨ now > 4611686018427387904 then (s, 25) else ({ s with now := now, L := keepF now s.L }, 0)
abbrev SortF (L : List Fl) : Prop := L.Pairwise fun f g => f.w.order g.w < 0
structure FtOk (s : Ft) : Prop where
  most : 0 ≤ s.most ∧ s.most ≤ 256
  now : 0 ≤ s.now ∧ s.now ≤ 4611686018427387904
  few : (s.L.length : Int) ≤ s.most
  sorted : SortF s.L
  each : ∀ f ∈ s.L, f.right = true ∧ s.now < f.ends ∧ f.w.kf
  apart : ∀ f ∈ s.L, ∀ g ∈ s.L, g.w = f.w.rev → f = g

/-! What is found. -/
theorem atF_some {w : Wy} {L : List Fl} {f : Fl} (h : atF w L = some f) : f ∈ L ∧ f.w = w :=
  ⟨List.mem_of_find?_eq_some h, by
    have h2 := List.find?_some (p := fun f : Fl => f.w.eqB w) h
    exact (Wy.eqB_iff _ _).1 h2⟩
theorem atF_none {w : Wy} {L : List Fl} : atF w L = none ↔ ∀ f ∈ L, f.w ≠ w := by
  unfold atF
  rw [List.find?_eq_none]
  exact ⟨fun h f hf e => h f hf ((Wy.eqB_iff _ _).2 e), fun h f hf e => h f hf ((Wy.eqB_iff _ _).1 e)⟩
theorem order_self (a : Wy) : a.order a = 0 := Wy.order_zero.2 rfl
theorem order_lt_ne {a b : Wy} (h : a.order b < 0) : a ≠ b := fun e => by rw [e, order_self] at h; omega
theorem order_lt_tr {a b c : Wy} (h : a.order b < 0) (h' : b.order c < 0) : a.order c < 0 := by
  have h1 := Wy.order_tr (a := a) (b := b) (c := c) (by omega) (by omega)
  rcases Int.lt_or_eq_of_le h1 with h2 | h2
  · exact h2
  · have e := Wy.order_zero.1 h2
    subst e
    have := Wy.order_neg a b
    omega
theorem order_gt {a b : Wy} (h : ¬ a.order b < 0) (hn : a ≠ b) : b.order a < 0 := by
  have h1 := Wy.order_neg a b
  have h2 : a.order b ≠ 0 := fun e => hn (Wy.order_zero.1 e)
  omega
theorem sort_uniq {L : List Fl} (h : SortF L) {f g : Fl} (hf : f ∈ L) (hg : g ∈ L) (e : f.w = g.w) : f = g := by
  induction L with
  | nil => cases hf
  | cons a r ih =>
    obtain ⟨h1, h2⟩ := List.pairwise_cons.1 h
    rcases List.mem_cons.1 hf with ea | hf'
    · rcases List.mem_cons.1 hg with eb | hg'
      · rw [ea, eb]
      · have := h1 g hg'
        rw [← ea, e, order_self] at this
        omega
    · rcases List.mem_cons.1 hg with eb | hg'
      · have := h1 f hf'
        rw [← eb, ← e, order_self] at this
        omega
      · exact ih h2 hf' hg'
theorem atF_mem {w : Wy} {L : List Fl} (h : SortF L) {f : Fl} (hf : f ∈ L) (e : f.w = w) : atF w L = some f := by
  cases ha : atF w L with
  | none => exact absurd e (atF_none.1 ha f hf)
  | some g =>
    obtain ⟨h1, h2⟩ := atF_some ha
    rw [sort_uniq h h1 hf (h2.trans e.symm)]
theorem ins_permF (f : Fl) : ∀ L : List Fl, (insF f L).Perm (f :: L)
  | [] => .refl _
  | g :: r => by
    unfold insF
    split
    · exact ((ins_permF f r).cons g).trans (.swap f g r)
    · exact .refl _
theorem ins_sorted {f : Fl} : ∀ {L : List Fl}, SortF L → (∀ g ∈ L, g.w ≠ f.w) → SortF (insF f L)
  | [], _, _ => by simp [insF]
  | g :: r, h, hn => by
    obtain ⟨h1, h2⟩ := List.pairwise_cons.1 h
    unfold insF
    by_cases hg : g.w.order f.w < 0
    · rw [if_pos hg]
      refine List.pairwise_cons.2 ⟨fun x hx => ?_, ins_sorted h2 (fun y hy => hn y (by simp [hy]))⟩
      rcases List.mem_cons.1 ((ins_permF f r).mem_iff.1 hx) with rfl | hx
      · exact hg
      · exact h1 x hx
    · rw [if_neg hg]
      have hfg := order_gt hg (hn g (by simp))
      refine List.pairwise_cons.2 ⟨fun x hx => ?_, h⟩
      rcases List.mem_cons.1 hx with rfl | hx
      · exact hfg
      · exact order_lt_tr hfg (h1 x hx)
theorem set_way (f : Fl) (L : List Fl) : (setF f L).map (·.w) = L.map (·.w) := by
  unfold setF
  rw [List.map_map]
  refine List.map_congr_left fun g _ => ?_
  simp only [Function.comp]
  split
  · rename_i h; exact ((Wy.eqB_iff _ _).1 h).symm
  · rfl
theorem sort_map {L M : List Fl} (h : L.map (·.w) = M.map (·.w)) (hs : SortF L) : SortF M := by
  have h1 : (L.map (·.w)).Pairwise fun a b => a.order b < 0 := List.pairwise_map.2 hs
  rw [h] at h1
  exact List.pairwise_map.1 h1
theorem set_mem {f : Fl} {L : List Fl} {x : Fl} (h : x ∈ setF f L) : x = f ∨ (x ∈ L ∧ x.w ≠ f.w) := by
  unfold setF at h
  obtain ⟨g, hg, e⟩ := List.mem_map.1 h
  by_cases hw : g.w.eqB f.w = true
  · rw [if_pos hw] at e; exact .inl e.symm
  · rw [if_neg hw] at e
    rw [← e]
    exact .inr ⟨hg, fun hx => hw ((Wy.eqB_iff _ _).2 hx)⟩
theorem set_len (f : Fl) (L : List Fl) : (setF f L).length = L.length := by simp [setF]
theorem set_perm {f : Fl} : ∀ {L : List Fl}, SortF L → (atF f.w L).isSome = true → (setF f L).Perm (f :: delF f.w L)
  | [], _, h => by simp [atF] at h
  | g :: r, hs, h => by
    obtain ⟨h1, h2⟩ := List.pairwise_cons.1 hs
    by_cases hw : g.w.eqB f.w = true
    · have e := (Wy.eqB_iff _ _).1 hw
      have hr : ∀ x ∈ r, x.w.eqB f.w = false := fun x hx => eqB_false.2 (fun ex => by have := h1 x hx; rw [e, ex, order_self] at this; omega)
      have e1 : setF f (g :: r) = f :: r := by
        unfold setF
        rw [List.map_cons, if_pos hw]
        congr 1
        rw [List.map_congr_left (g := id) (fun x hx => by simp [hr x hx])]
        simp
      have e2 : delF f.w (g :: r) = r := by
        unfold delF
        rw [List.filter_cons, if_neg (by simp [hw])]
        exact List.filter_eq_self.2 (fun x hx => by simp [hr x hx])
      rw [e1, e2]
    · have hwf : g.w.eqB f.w = false := by simpa using hw
      have h' : (atF f.w r).isSome = true := by
        unfold atF at h ⊢
        rw [List.find?_cons, hwf] at h
        exact h
      have ih := set_perm h2 h'
      have e1 : setF f (g :: r) = g :: setF f r := by
        unfold setF
        rw [List.map_cons, if_neg hw]
      have e2 : delF f.w (g :: r) = g :: delF f.w r := by
        unfold delF
        rw [List.filter_cons, if_pos (by simp [hwf])]
      rw [e1, e2]
      exact (ih.cons g).trans (.swap f g _)
theorem set_eq_set {f : Fl} : ∀ {L : List Fl} {i : Nat}, SortF L → (∃ g, L[i]? = some g ∧ g.w = f.w) → setF f L = L.set i f
  | [], _, _, h => by obtain ⟨g, hg, _⟩ := h; simp at hg
  | a :: r, 0, hs, h => by
    obtain ⟨g, hg, e⟩ := h
    obtain rfl : a = g := by simpa using hg
    obtain ⟨h1, h2⟩ := List.pairwise_cons.1 hs
    unfold setF
    rw [List.map_cons, if_pos ((Wy.eqB_iff _ _).2 e), List.set_cons_zero]
    congr 1
    rw [List.map_congr_left (g := id) (fun x hx => by
      have : x.w.eqB f.w = false := eqB_false.2 (fun ex => by have := h1 x hx; rw [e, ex, order_self] at this; omega)
      simp [this])]
    simp
  | a :: r, i + 1, hs, h => by
    obtain ⟨g, hg, e⟩ := h
    obtain ⟨h1, h2⟩ := List.pairwise_cons.1 hs
    have hg' : r[i]? = some g := by simpa using hg
    have hne : a.w.eqB f.w = false := eqB_false.2 (fun ex => by have := h1 g (List.mem_of_getElem? hg'); rw [e, ← ex, order_self] at this; omega)
    have ih := set_eq_set h2 ⟨g, hg', e⟩
    unfold setF at ih ⊢
    rw [List.map_cons, if_neg (by rw [hne]; simp), ih]
    rfl

/-! What holds all the while. -/
theorem new_ok {m : Int} (h : 0 ≤ m ∧ m ≤ 256) : FtOk ⟨m, 0, []⟩ := ⟨h, ⟨Int.le_refl 0, by show (0 : Int) ≤ 4611686018427387904; decide⟩, by simpa using h.1, by simp, by simp, by simp⟩
theorem Ft.put_ok {s : Ft} (h : FtOk s) {f : Fl} (hk : f.w.kf) : FtOk (s.put f).1 := by
  unfold Ft.put
  by_cases h1 : (!(f.right && decide (s.now < f.ends))) = true
  · rw [if_pos h1]; exact h
  rw [if_neg h1]
  have hr : f.right = true ∧ s.now < f.ends := by
    simp only [Bool.not_eq_true', Bool.not_eq_false, Bool.and_eq_true, decide_eq_true_eq] at h1; exact h1
  by_cases h2 : (atF f.w s.L).isSome = true
  · rw [if_pos h2]
    have hm : ∀ x ∈ setF f s.L, x = f ∨ x ∈ s.L := fun x hx => (set_mem hx).imp id And.left
    obtain ⟨g, hg⟩ := Option.isSome_iff_exists.1 h2
    obtain ⟨gm, gw⟩ := atF_some hg
    have hso : SortF (setF f s.L) := sort_map (set_way f s.L).symm h.sorted
    refine ⟨h.most, h.now, by show ((setF f s.L).length : Int) ≤ _; rw [set_len]; exact h.few, hso, fun x hx => ?_, fun x hx y hy e => ?_⟩
    · rcases hm x hx with rfl | hx
      · exact ⟨hr.1, hr.2, hk⟩
      · exact h.each x hx
    · rcases set_mem hx with rfl | ⟨hx', hxw⟩
      · rcases set_mem hy with rfl | ⟨hy', hyw⟩
        · rfl
        · have := h.apart g gm y hy' (by rw [e, gw])
          exact absurd (this ▸ gw) hyw
      · rcases set_mem hy with rfl | ⟨hy', hyw⟩
        · have := h.apart x hx' g gm (by rw [gw, e])
          exact absurd (this ▸ gw) hxw
        · exact h.apart x hx' y hy' e
  rw [if_neg h2]
  by_cases h3 : (atF f.w.rev s.L).isSome = true
  · rw [if_pos h3]; exact h
  rw [if_neg h3]
  by_cases h4 : s.most ≤ s.L.length
  · rw [if_pos h4]; exact h
  rw [if_neg h4]
  have n2 : ∀ g ∈ s.L, g.w ≠ f.w := atF_none.1 (by simpa using h2)
  have n3 : ∀ g ∈ s.L, g.w ≠ f.w.rev := atF_none.1 (by simpa using h3)
  have hp := ins_permF f s.L
  refine ⟨h.most, h.now, ?_, ins_sorted h.sorted n2, fun x hx => ?_, fun x hx y hy e => ?_⟩
  · show ((insF f s.L).length : Int) ≤ _
    rw [hp.length_eq, List.length_cons]
    simp only
    omega
  · rcases List.mem_cons.1 (hp.mem_iff.1 hx) with rfl | hx
    · exact ⟨hr.1, hr.2, hk⟩
    · exact h.each x hx
  · rcases List.mem_cons.1 (hp.mem_iff.1 hx) with ex | hx2
    · rcases List.mem_cons.1 (hp.mem_iff.1 hy) with ey | hy2
      · rw [ex, ey]
      · exact absurd (by rw [e, ex]) (n3 y hy2)
    · rcases List.mem_cons.1 (hp.mem_iff.1 hy) with ey | hy2
      · exact absurd (by rw [ey] at e; exact rev_iff.1 e.symm) (n3 x hx2)
      · exact h.apart x hx2 y hy2 e
theorem FtOk.filter {s : Ft} (h : FtOk s) (p : Fl → Bool) (now : Int) (hn : 0 ≤ now ∧ now ≤ 4611686018427387904) (hp : ∀ f ∈ s.L, p f = true → now < f.ends) : FtOk ⟨s.most, now, s.L.filter p⟩ :=
  ⟨h.most, hn, Int.le_trans (by show ((s.L.filter p).length : Int) ≤ s.L.length; exact Int.ofNat_le.2 (List.length_filter_le _ _)) h.few, h.sorted.filter _, fun f hf => by
    obtain ⟨h1, h2⟩ := List.mem_filter.1 hf
    exact ⟨(h.each f h1).1, hp f h1 h2, (h.each f h1).2.2⟩, fun x hx y hy e => h.apart x (List.mem_filter.1 hx).1 y (List.mem_filter.1 hy).1 e⟩
theorem Ft.drop_ok {s : Ft} (h : FtOk s) (w : Wy) : FtOk (s.drop w).1 := by
  unfold Ft.drop
  split
  · exact h.filter _ s.now h.now (fun f hf _ => (h.each f hf).2.1)
  · split
    · exact h.filter _ s.now h.now (fun f hf _ => (h.each f hf).2.1)
    · exact h
theorem Ft.tick_ok {s : Ft} (h : FtOk s) (now : Int) : FtOk (s.tick now).1 := by
  unfold Ft.tick
  split
  · exact h
  · rename_i hn
    have := h.now
    exact h.filter _ now (by omega) (fun f hf hd => by simpa using hd)
end Go.Proofs.Ytmjjdbkipagkbaa
namespace Go.Proofs.Ytmjjdbkipagkbaa
open Go.ChangeShapes Go.WideShapes Go.ChangeAt Go.RowKit Go.Joins
set_option linter.unusedVariables false
set_option linter.constructorNameAsVariable false
set_option maxRecDepth 100000
theorem ad_ok {f h l : Int} (w0 : (Lit.int .i64 f).wf = true) (w1 : (Lit.int .u64 h).wf = true) (w2 : (Lit.int .u64 l).wf = true) : Ad.ok ⟨f, h, l⟩ := by
  refine ⟨?_, ?_, ?_⟩
  · simpa [Lit.wf, IntKind.min, IntKind.max, IntKind.signed, IntKind.bits] using w0
  · simpa [Lit.wf, IntKind.min, IntKind.max, IntKind.signed, IntKind.bits] using w1
  · simpa [Lit.wf, IntKind.min, IntKind.max, IntKind.signed, IntKind.bits] using w2
theorem list3 {cs : List Value} (h : cs.length = 3) : ∃ a b c, cs = [a, b, c] := by
  match cs, h with
  | [a, b, c], _ => exact ⟨a, b, c, rfl⟩
theorem addr_cells {H : Type} {enc : TypeId × Value → H} {W : World} {n : Nat} {cs : List Value} {y : DataW H × List MemPlace}
    (h : DataW.trod enc Try.prog W 0 (fun _ => true) true n 24 cs = some y) : ∃ f h l, cs = [.int .i64 f, .int .u64 h, .int .u64 l] ∧ Ad.ok ⟨f, h, l⟩ := by
  obtain ⟨y0, y1, y2, k, _, hl, h0, h1, h2⟩ := Go.Deep.trod_struct3 Try.underlying24 h
  have c24 : Try.prog.cellsOf 24 = 3 := by kernel_rfl
  have c3 : Try.prog.cellsOf 3 = 1 := by kernel_rfl
  have c22 : Try.prog.cellsOf 22 = 1 := by kernel_rfl
  rw [c24] at hl
  obtain ⟨v0, v1, v2, rfl⟩ := list3 hl
  simp only [c3, c22] at h0 h1 h2
  obtain ⟨f, e0, _, w0⟩ := DataW.trod_int Try.underlying3 h0
  obtain ⟨h, e1, _, w1⟩ := DataW.trod_int Try.underlying22 h1
  obtain ⟨l, e2, _, w2⟩ := DataW.trod_int Try.underlying22 h2
  simp only [List.drop_zero, List.drop_succ_cons, List.take_succ_cons, List.take_zero, List.cons.injEq, and_true] at e0 e1 e2
  subst e0 e1 e2
  exact ⟨_, _, _, rfl, ad_ok w0 w1 w2⟩
end Go.Proofs.Ytmjjdbkipagkbaa
