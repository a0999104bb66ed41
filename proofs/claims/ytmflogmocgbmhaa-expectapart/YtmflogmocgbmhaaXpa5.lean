/- Texts joined: XpA -/
import Derived.Test.YtmflogmocgbmhaaXpa4
namespace Go.Proofs.Ytmflogmocgbmhaa
open Go.RowKit
set_option linter.unusedVariables false
set_option linter.unusedSimpArgs false
/-- A want. -/
structure Wt where
  w : Wy
  m : Wy
  ends : Int
  help : Int
abbrev Wt.v (f : Wt) : Array Value := #[.int .i64 f.w.fam, .int .i64 f.w.pr, .int .i64 f.w.s.fam, .int .u64 f.w.s.hi, .int .u64 f.w.s.lo, .int .i64 f.w.d.fam, .int .u64 f.w.d.hi, .int .u64 f.w.d.lo, .int .i64 f.w.sp, .int .i64 f.w.dp, .int .i64 f.m.fam, .int .i64 f.m.pr, .int .i64 f.m.s.fam, .int .u64 f.m.s.hi, .int .u64 f.m.s.lo, .int .i64 f.m.d.fam, .int .u64 f.m.d.hi, .int .u64 f.m.d.lo, .int .i64 f.m.sp, .int .i64 f.m.dp, .int .i64 f.ends, .int .i64 f.help]
abbrev wyz : Wy := ⟨0, 0, ⟨0, 0, 0⟩, ⟨0, 0, 0⟩, 0, 0⟩
def wt0 : Wt := ⟨wyz, wyz, 0, 0⟩
instance : Inhabited Wt := ⟨wt0⟩
def endW (n : Int) : Bool := decide (0 ≤ n) && decide (n ≤ 4611686018427387904)
def hlpW (h : Int) : Bool := decide (0 ≤ h) && decide (h ≤ 3)
/-- A way with 0 for any port. -/
def Wy.any (t : Wy) : Wy := { t with sp := if t.sp == -1 then 0 else t.sp }
def Wt.right (f : Wt) : Bool := f.w.any.right && (f.m.right && (endW f.ends && hlpW f.help))
/-- Is a way one's own, or that but for any port? -/
def forB (own t : Wy) : Bool := own.eqB { t with sp := if own.sp == -1 then -1 else t.sp }
def Wt.waits (f : Wt) (t : Wy) : Bool := f.right && (t.right && forB f.w t)
structure Wt.ok (f : Wt) : Prop where
  w : f.w.ok
  m : f.m.ok
theorem Wy.any_ok {t : Wy} (h : t.ok) : t.any.ok := ⟨h.s, h.d⟩
theorem Wy.mk_ok {t : Wy} (h : t.ok) (p : Int) : Wy.ok ⟨t.fam, t.pr, t.s, t.d, p, t.dp⟩ := ⟨h.s, h.d⟩
/-- As the document says it. -/
theorem for_doc (own t : Wy) : forB own t = Wy.eqB { own with sp := if own.sp == -1 then t.sp else own.sp } t := by
  rw [Bool.eq_iff_iff]
  unfold forB
  rw [Wy.eqB_iff, Wy.eqB_iff]
  obtain ⟨f, pr, s, d, sp, dp⟩ := own
  obtain ⟨f', pr', s', d', sp', dp'⟩ := t
  simp only [Wy.mk.injEq]
  by_cases h : sp = -1
  · simp [h]
  · simp [h]
theorem eqB_refl (w : Wy) : w.eqB w = true := (Wy.eqB_iff w w).2 rfl
/-- A table. -/
structure Xt where
  most : Int
  quota : Int
  now : Int
  L : List Wt
def ixW (x : Wy) (l : List Wt) : Option Nat := l.findIdx? fun q => q.w.eqB x
def cntW (m : Wy) (l : List Wt) : Nat := l.countP fun q => q.m.eqB m
def waitW (x : Wy) (l : List Wt) : Option Nat := l.findIdx? fun q => q.waits x
def Xt.put (s : Xt) (f : Wt) : Xt × Int :=
  match ixW f.w s.L with
  | some k => if (s.L.getD k wt0).m.eqB f.m then ({ s with L := s.L.set k f }, 0) else (s, 17)
  | none => if s.quota ≤ (cntW f.m s.L : Int) then (s, 17) else if s.most ≤ (s.L.length : Int) then (s, 12) else ({ s with L := s.L ++ [f] }, 0)
def Xt.add (s : Xt) (f : Wt) : Xt × Int := if !f.right || decide (f.ends ≤ s.now) then (s, 1) else s.put f
def Xt.take (s : Xt) (x : Wy) : Xt × Wt × Bool :=
  match waitW x s.L with
  | none => (s, wt0, false)
  | some k => ({ s with L := s.L.filter fun q => !(q.w.eqB (s.L.getD k wt0).w) }, s.L.getD k wt0, true)
def Xt.forget (s : Xt) (m : Wy) : Xt × Int := ({ s with L := s.L.filter fun q => !(q.m.eqB m) }, (s.L.length : Int) - ((s.L.filter fun q => !(q.m.eqB m)).length : Int))
def Xt.tick (s : Xt) (n : Int) : Xt × Int := if decide (n < s.now) || decide (4611686018427387904 < n) then (s, 25) else ({ s with now := n, L := s.L.filter fun q => !(decide (q.ends ≤ n)) }, 0)
structure XtOk (s : Xt) : Prop where
  most : 0 ≤ s.most ∧ s.most ≤ 256
  quota : 0 ≤ s.quota ∧ s.quota ≤ 256
  now : 0 ≤ s.now
  few : (s.L.length : Int) ≤ s.most
  each : ∀ q ∈ s.L, q.right = true ∧ s.now < q.ends ∧ q.ok
  apart : (s.L.map (·.w)).Nodup
  quot : ∀ m, (cntW m s.L : Int) ≤ s.quota
theorem xt_new {m q : Int} (h : 0 ≤ m ∧ m ≤ 256) (h2 : 0 ≤ q ∧ q ≤ 256) : XtOk ⟨m, q, 0, []⟩ :=
  ⟨h, h2, by simp, by simpa using h.1, fun q hq => by simp at hq, by simp, fun m => by simpa [cntW] using h2.1⟩
theorem cnt_sub {m : Wy} {l l' : List Wt} (h : l'.Sublist l) : cntW m l' ≤ cntW m l := h.countP_le
theorem XtOk.sub {s : Xt} (h : XtOk s) {l : List Wt} (hl : l.Sublist s.L) {n : Int} (h0 : 0 ≤ n) (hn : ∀ q ∈ l, n < q.ends) : XtOk ⟨s.most, s.quota, n, l⟩ :=
  ⟨h.most, h.quota, h0, by have := hl.length_le; have := h.few; show (l.length : Int) ≤ s.most; omega, fun q hq => ⟨(h.each q (hl.subset hq)).1, hn q hq, (h.each q (hl.subset hq)).2.2⟩, h.apart.sublist (hl.map _), fun m => by have := cnt_sub (m := m) hl; have := h.quot m; show (cntW m l : Int) ≤ s.quota; omega⟩
theorem XtOk.forget {s : Xt} (h : XtOk s) (m : Wy) : XtOk (s.forget m).1 := h.sub List.filter_sublist h.now fun q hq => (h.each q (List.mem_filter.1 hq).1).2.1
theorem XtOk.take {s : Xt} (h : XtOk s) (x : Wy) : XtOk (s.take x).1 := by
  unfold Xt.take
  split
  · exact h
  · exact h.sub List.filter_sublist h.now fun q hq => (h.each q (List.mem_filter.1 hq).1).2.1
theorem XtOk.tick {s : Xt} (h : XtOk s) (n : Int) : XtOk (s.tick n).1 := by
  unfold Xt.tick
  split
  · exact h
  · rename_i hn
    simp only [Bool.or_eq_true, decide_eq_true_eq, not_or] at hn
    refine h.sub List.filter_sublist (by have := h.now; omega) fun q hq => ?_
    have := (List.mem_filter.1 hq).2
    simp at this
    exact this
theorem ix_some {x : Wy} {l : List Wt} {k : Nat} (h : ixW x l = some k) : ∃ q, l[k]? = some q ∧ q.w = x ∧ k < l.length := by
  unfold ixW at h
  rw [List.findIdx?_eq_some_iff_getElem] at h
  obtain ⟨hk, hp, _⟩ := h
  exact ⟨l[k], List.getElem?_eq_getElem hk, (Wy.eqB_iff _ _).1 hp, hk⟩
theorem ix_none {x : Wy} {l : List Wt} (h : ixW x l = none) : ∀ q ∈ l, q.w ≠ x := by
  unfold ixW at h
  rw [List.findIdx?_eq_none_iff] at h
  intro q hq e
  have := h q hq
  rw [e, eqB_refl] at this
  cases this
theorem getD_at {l : List Wt} {k : Nat} {q : Wt} (h : l[k]? = some q) : l.getD k wt0 = q := by rw [List.getD_eq_getElem?_getD, h]; rfl
theorem set_map {β : Type} (g : Wt → β) {l : List Wt} {k : Nat} {q f : Wt} (h : l[k]? = some q) (e : g f = g q) : (l.set k f).map g = l.map g := by
  rw [List.map_set]
  apply List.ext_getElem?
  intro i
  by_cases hi : i = k
  · subst hi
    obtain ⟨h1, h2⟩ := List.getElem?_eq_some_iff.1 h
    rw [List.getElem?_set_self (by simpa using h1), List.getElem?_map, h, e]
    rfl
  · rw [List.getElem?_set_ne (fun x => hi x.symm)]
theorem cnt_map (m : Wy) (l : List Wt) : cntW m l = (l.map (·.m)).countP (fun x => x.eqB m) := by unfold cntW; rw [List.countP_map]; rfl
theorem XtOk.put {s : Xt} (h : XtOk s) {f : Wt} (hf : f.right = true) (ho : f.ok) (hn : s.now < f.ends) : XtOk (s.put f).1 := by
  unfold Xt.put
  split
  · rename_i k hk
    split
    · rename_i hm
      obtain ⟨q, hq, hw, hl⟩ := ix_some hk
      rw [getD_at hq, Wy.eqB_iff] at hm
      refine ⟨h.most, h.quota, h.now, by simpa using h.few, fun p hp => ?_, ?_, fun m => ?_⟩
      · rcases List.mem_or_eq_of_mem_set hp with h1 | h1
        · exact h.each p h1
        · rw [h1]; exact ⟨hf, hn, ho⟩
      · show ((s.L.set k f).map (·.w)).Nodup
        rw [set_map (·.w) hq hw.symm]
        exact h.apart
      · show (cntW m (s.L.set k f) : Int) ≤ s.quota
        rw [cnt_map, set_map (·.m) hq hm.symm, ← cnt_map]
        exact h.quot m
    · exact h
  · rename_i hk
    split
    · exact h
    · rename_i hq
      split
      · exact h
      · rename_i hm
        refine ⟨h.most, h.quota, h.now, by simp; omega, fun p hp => ?_, ?_, fun m => ?_⟩
        · rcases List.mem_append.1 hp with h1 | h1
          · exact h.each p h1
          · rw [List.mem_singleton.1 h1]; exact ⟨hf, hn, ho⟩
        · show ((s.L ++ [f]).map (·.w)).Nodup
          rw [List.map_append, List.nodup_append]
          refine ⟨h.apart, by simp, fun a ha b hb => ?_⟩
          simp at hb
          obtain ⟨q, hq', rfl⟩ := List.mem_map.1 ha
          rw [hb]
          exact ix_none hk q hq'
        · show (cntW m (s.L ++ [f]) : Int) ≤ s.quota
          unfold cntW
          rw [List.countP_append]
          by_cases e : f.m.eqB m = true
          · have e1 := (Wy.eqB_iff _ _).1 e
            rw [← e1]
            have : ([f].countP fun q => q.m.eqB f.m) = 1 := by simp [eqB_refl]
            rw [this]
            unfold cntW at hq
            omega
          · have : ([f].countP fun q => q.m.eqB m) = 0 := by simp; simpa using e
            rw [this]
            have := h.quot m
            unfold cntW at this
            omega
theorem XtOk.add {s : Xt} (h : XtOk s) {f : Wt} (ho : f.ok) : XtOk (s.add f).1 := by
  unfold Xt.add
  split
  · exact h
  · rename_i hn
    simp only [Bool.or_eq_true, Bool.not_eq_true', decide_eq_true_eq, not_or, Bool.not_eq_false] at hn
    exact h.put hn.1 ho (by omega)
theorem add_most (s : Xt) (f : Wt) : (s.add f).1.most = s.most ∧ (s.add f).1.quota = s.quota ∧ (s.add f).1.now = s.now := by unfold Xt.add Xt.put; (repeat' split) <;> exact ⟨rfl, rfl, rfl⟩
theorem take_most (s : Xt) (x : Wy) : (s.take x).1.most = s.most ∧ (s.take x).1.quota = s.quota ∧ (s.take x).1.now = s.now := by unfold Xt.take; (repeat' split) <;> exact ⟨rfl, rfl, rfl⟩
theorem tick_most (s : Xt) (n : Int) : (s.tick n).1.most = s.most ∧ (s.tick n).1.quota = s.quota := by unfold Xt.tick; (repeat' split) <;> exact ⟨rfl, rfl⟩
theorem wait_some {x : Wy} {l : List Wt} {k : Nat} (h : waitW x l = some k) : ∃ q, l[k]? = some q ∧ q.waits x = true ∧ k < l.length := by
  unfold waitW at h
  rw [List.findIdx?_eq_some_iff_getElem] at h
  obtain ⟨hk, hp, _⟩ := h
  exact ⟨l[k], List.getElem?_eq_getElem hk, hp, hk⟩
theorem filter_one : ∀ {l : List Wt} {k : Nat} {q : Wt}, (l.map (·.w)).Nodup → l[k]? = some q → l.filter (fun p => !(p.w.eqB q.w)) = l.eraseIdx k
  | [], k, q, _, h => by simp at h
  | y :: r, 0, q, hn, h => by
    obtain rfl : y = q := by simpa using h
    rw [List.map_cons, List.nodup_cons] at hn
    rw [List.filter_cons, if_neg (by simp [eqB_refl]), List.eraseIdx_cons_zero]
    refine List.filter_eq_self.2 fun p hp => ?_
    have : p.w.eqB y.w = false := by
      cases e : p.w.eqB y.w with
      | false => rfl
      | true => exact absurd (List.mem_map.2 ⟨p, hp, (Wy.eqB_iff _ _).1 e⟩) hn.1
    rw [this]; rfl
  | y :: r, k + 1, q, hn, h => by
    rw [List.map_cons, List.nodup_cons] at hn
    have h' : r[k]? = some q := by simpa using h
    have ih := filter_one hn.2 h'
    have hne : y.w.eqB q.w = false := by
      cases e : y.w.eqB q.w with
      | false => rfl
      | true => exact absurd (List.mem_map.2 ⟨q, List.mem_of_getElem? h', ((Wy.eqB_iff _ _).1 e).symm⟩) hn.1
    rw [List.filter_cons, if_pos (by rw [hne]; rfl), List.eraseIdx_cons_succ, ih]
end Go.Proofs.Ytmflogmocgbmhaa
