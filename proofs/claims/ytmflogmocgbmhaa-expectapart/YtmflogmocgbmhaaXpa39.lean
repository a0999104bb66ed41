/- Texts joined: XqA -/
import Derived.Test.YtmflogmocgbmhaaXpa32
namespace Go.Proofs.Ytmflogmocgbmhaa
open Go.RowKit
set_option linter.unusedVariables false
set_option linter.unusedSimpArgs false
/-- A want of a way with this port, of this Master. -/
abbrev dress (f : Wt) (dp : Int) (m : Wy) : Wt := ⟨⟨f.w.fam, f.w.pr, f.w.s, f.w.d, f.w.sp, dp⟩, m, f.ends, f.help⟩
theorem setMas_xp (f : Wt) (m : Wy) : setMany f.v 10 m.v.toList = Wt.v ⟨f.w, m, f.ends, f.help⟩ := by kernel_rfl
theorem add_mem {s : Xt} {f q : Wt} (h : q ∈ (s.add f).1.L) : q ∈ s.L ∨ q = f := by
  unfold Xt.add Xt.put at h
  (repeat' split at h) <;> first | exact .inl h | exact List.mem_or_eq_of_mem_set h | (rcases List.mem_append.1 h with h | h; exact .inl h; exact .inr (List.mem_singleton.1 h))
theorem add_grow (s : Xt) (f : Wt) : (s.add f).1.L.length ≤ s.L.length + 1 := by
  unfold Xt.add Xt.put
  (repeat' split) <;> simp
/-- Others' wants. -/
structure Oth (s : Xt) (n : Nat) : Prop where
  most : s.most = 256
  quota : s.quota = 256
  now : s.now = 0
  all : ∀ q ∈ s.L, q.w.dp = 7 ∧ q.m = wayW 21 1
  few : s.L.length ≤ n
theorem oth_new : Oth ⟨256, 256, 0, []⟩ 0 := ⟨rfl, rfl, rfl, (fun q h => by cases h), Nat.le_refl _⟩
theorem Oth.add {s : Xt} {n : Nat} (h : Oth s n) (f : Wt) : Oth (s.add (dress f 7 (wayW 21 1))).1 (n + 1) :=
  ⟨(add_most s _).1.trans h.most, (add_most s _).2.1.trans h.quota, (add_most s _).2.2.trans h.now, fun q hq => by
    rcases add_mem hq with h1 | rfl
    · exact h.all q h1
    · exact ⟨rfl, rfl⟩, Nat.le_trans (add_grow s _) (Nat.succ_le_succ h.few)⟩
/-- Two tables, the first with others' wants ahead. -/
structure Two (s u : Xt) (L0 : List Wt) (n : Nat) : Prop where
  most : s.most = 256 ∧ u.most = 256
  quota : s.quota = 256 ∧ u.quota = 256
  now : s.now = 0 ∧ u.now = 0
  list : s.L = L0 ++ u.L
  oth : ∀ q ∈ L0, q.w.dp = 7 ∧ q.m = wayW 21 1
  mine : ∀ q ∈ u.L, q.w.dp = 8 ∧ q.m = wayW 21 2
  few : s.L.length ≤ n
theorem two_new {s : Xt} {n : Nat} (h : Oth s n) : Two s ⟨256, 256, 0, []⟩ s.L n := ⟨⟨h.most, rfl⟩, ⟨h.quota, rfl⟩, ⟨h.now, rfl⟩, (List.append_nil _).symm, h.all, (fun q hq => by cases hq), h.few⟩
theorem way_ne (a b c : Int) (h : b ≠ c) : wayW a b ≠ wayW a c := fun e => h (by have := congrArg Wy.dp e; simpa [wayW] using this)
theorem find_app {p : Wt → Bool} {A B : List Wt} (h : ∀ q ∈ A, p q = false) : (A ++ B).findIdx? p = (B.findIdx? p).map (A.length + ·) := by
  rw [List.findIdx?_append, List.findIdx?_eq_none_iff.2 h]
  cases B.findIdx? p with
  | none => rfl
  | some k => simp [Nat.add_comm]
theorem getD_app {A B : List Wt} (k : Nat) : (A ++ B).getD (A.length + k) wt0 = B.getD k wt0 := by
  rw [List.getD_eq_getElem?_getD, List.getD_eq_getElem?_getD, List.getElem?_append_right (by omega), Nat.add_sub_cancel_left]
theorem set_app {A B : List Wt} (k : Nat) (f : Wt) : (A ++ B).set (A.length + k) f = A ++ B.set k f := by
  rw [List.set_append_right _ _ (by omega), Nat.add_sub_cancel_left]
set_option maxHeartbeats 1000000 in
theorem Two.add {s u : Xt} {L0 : List Wt} {n : Nat} (h : Two s u L0 n) (f : Wt) (hn : n < 256) : (s.add (dress f 8 (wayW 21 2))).2 = (u.add (dress f 8 (wayW 21 2))).2 ∧ Two (s.add (dress f 8 (wayW 21 2))).1 (u.add (dress f 8 (wayW 21 2))).1 L0 (n + 1) := by
  have hg := add_grow s (dress f 8 (wayW 21 2))
  generalize hF : dress f 8 (wayW 21 2) = F at *
  have hFd : F.w.dp = 8 := by rw [← hF]
  have hFm : F.m = wayW 21 2 := by rw [← hF]
  have hix : ixW F.w s.L = (ixW F.w u.L).map (L0.length + ·) := by
    unfold ixW
    rw [h.list, find_app]
    intro q hq
    cases e : q.w.eqB F.w with
    | false => rfl
    | true =>
      have e1 := congrArg Wy.dp ((Wy.eqB_iff _ _).1 e)
      rw [(h.oth q hq).1, hFd] at e1
      cases e1
  have hcn : cntW F.m s.L = cntW F.m u.L := by
    unfold cntW
    rw [h.list, List.countP_append, List.countP_eq_zero.2, Nat.zero_add]
    intro q hq e
    have e1 := (Wy.eqB_iff _ _).1 e
    rw [(h.oth q hq).2, hFm] at e1
    exact way_ne 21 1 2 (by decide) e1
  have hls := congrArg List.length h.list
  rw [List.length_append] at hls
  have hfw := h.few
  have key : (s.add F).2 = (u.add F).2 ∧ (s.add F).1.L = L0 ++ (u.add F).1.L := by
    unfold Xt.add
    rw [h.now.1, h.now.2]
    split
    · exact ⟨rfl, h.list⟩
    · unfold Xt.put
      rw [hix]
      cases hu : ixW F.w u.L with
      | some k =>
        simp only [Option.map_some]
        rw [show s.L.getD (L0.length + k) wt0 = u.L.getD k wt0 by rw [h.list]; exact getD_app k]
        split
        · exact ⟨rfl, by show s.L.set (L0.length + k) F = L0 ++ u.L.set k F; rw [h.list]; exact set_app k F⟩
        · exact ⟨rfl, h.list⟩
      | none =>
        simp only [Option.map_none]
        rw [hcn, h.quota.1, h.quota.2, h.most.1, h.most.2]
        split
        · exact ⟨rfl, h.list⟩
        · rw [if_neg (by omega), if_neg (by omega)]
          exact ⟨rfl, by show s.L ++ [F] = L0 ++ (u.L ++ [F]); rw [h.list, List.append_assoc]⟩
  refine ⟨key.1, ⟨(add_most s _).1.trans h.most.1, (add_most u _).1.trans h.most.2⟩, ⟨(add_most s _).2.1.trans h.quota.1, (add_most u _).2.1.trans h.quota.2⟩, ⟨(add_most s _).2.2.trans h.now.1, (add_most u _).2.2.trans h.now.2⟩, key.2, h.oth, fun q hq => ?_, by omega⟩
  rcases add_mem hq with h1 | rfl
  · exact h.mine q h1
  · exact ⟨hFd, hFm⟩
theorem Two.forget {s u : Xt} {L0 : List Wt} {n : Nat} (h : Two s u L0 n) : (s.forget (wayW 21 1)).1 = u := by
  obtain ⟨m, q, c, L⟩ := u
  obtain ⟨m', q', c', L'⟩ := s
  obtain ⟨h1, h2, h3, h4, h5, h6, _⟩ := h
  simp only at h1 h2 h3 h4 h6
  show (⟨m', q', c', L'.filter fun p : Wt => !(p.m.eqB (wayW 21 1))⟩ : Xt) = _
  have e : (L'.filter fun p : Wt => !(p.m.eqB (wayW 21 1))) = L := by
    rw [h4, List.filter_append, List.filter_eq_nil_iff.2, List.nil_append, List.filter_eq_self.2]
    · intro p hp
      cases e : p.m.eqB (wayW 21 1) with
      | false => rfl
      | true =>
        have e1 := (Wy.eqB_iff _ _).1 e
        rw [(h6 p hp).2] at e1
        exact absurd e1 (way_ne 21 2 1 (by decide))
    · intro p hp
      rw [(h5 p hp).2, eqB_refl]
      decide
  rw [e, h1.1, h1.2, h2.1, h2.2, h3.1, h3.2]
end Go.Proofs.Ytmflogmocgbmhaa
