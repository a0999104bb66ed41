/- Set of the document's wheel. -/
import Derived.Test.YtfcpjenlckkloaaWrB
namespace Go.Proofs.Ytfcpjenlckkloaa
open Go.RowKit
set_option linter.unusedVariables false
set_option linter.unusedSimpArgs false

set_option maxHeartbeats 2000000 in
theorem rset_n (w : World) (gr : Nat) (a : Option Addr) (c : Nat) (clock : Int) (E : List M.Ent) (h : Rm w gr a c clock E) (hl : E.length ≤ 1024) (id at_ : Int) (hr : setR E id at_ ≠ 0) :
    Calls Try.prog 23 #[.pointer (some ⟨gr, 0, none⟩), .int .i64 id, .int .i64 at_] w fun e w' => e = .returned (.int .i64 (setR E id at_)) ∧ w' = w := by
  have K := hidW (find_any w gr a c clock E h hl id)
  have c1 := h.blk.cell 1 _ rfl
  have hle := fnd_le E id
  unfold setR at hr ⊢
  unfold fndR at K
  clear h
  by_cases h1 : rtB at_ = false
  · rw [if_pos h1]
    have hb : at_ < 0 ∨ 4611686018427387904 < at_ := by simp [rtB] at h1; omega
    clear hr h1
    rcases Int.lt_or_le at_ 0 with y | y
    · clear hb
      go_enter Try.func23, Try.ntmps23
      go_wp2
      go_ret
      exact ⟨rfl, rfl⟩
    · have y2 : 4611686018427387904 < at_ := by omega
      clear hb
      go_enter Try.func23, Try.ntmps23
      go_wp2
      go_ret
      exact ⟨rfl, rfl⟩
  · rw [if_neg h1] at hr ⊢
    have hb : 0 ≤ at_ ∧ at_ ≤ 4611686018427387904 := by
      have : rtB at_ = true := by simpa using h1
      simpa [rtB] using this
    obtain ⟨hb1, hb2⟩ := hb
    by_cases h2 : M.tm E id = none ∧ 1024 ≤ E.length
    · rw [if_pos h2]
      have hf : ¬ fnd E id < E.length := fun x => by
        obtain ⟨p, _, _, h3⟩ := fnd_some x
        rw [h2.1] at h3; cases h3
      rw [if_neg hf] at K
      have h4 : (1024 : Int) ≤ ↑E.length := by omega
      clear hr h1 hf h2
      generalize E.length = n at *
      go_enter Try.func23, Try.ntmps23
      go_wp2_with fail
      refine Calls.mono K.out ?_
      rintro e w' ⟨rfl, rfl⟩
      go_wp2
      go_ret
      exact ⟨rfl, rfl⟩
    · rw [if_neg h2] at hr
      exact absurd rfl hr
/-- Where an entry goes. -/
def plc (E : List M.Ent) (p : M.Ent) : Nat := (E.takeWhile (fun q => M.bef q p)).length
theorem plc_le (E : List M.Ent) (p : M.Ent) : plc E p ≤ E.length := (List.takeWhile_sublist _).length_le
theorem plc_ins (E : List M.Ent) (p : M.Ent) : E.take (plc E p) ++ [p] ++ E.drop (plc E p) = M.insE E p := by
  unfold M.insE plc
  have h := List.takeWhile_append_dropWhile (p := fun q => M.bef q p) (l := E)
  have key : ∀ (A B : List M.Ent), (A ++ B).take A.length = A ∧ (A ++ B).drop A.length = B := fun A B => by simp
  obtain ⟨h1, h2⟩ := key (E.takeWhile (fun q => M.bef q p)) (E.dropWhile (fun q => M.bef q p))
  rw [h] at h1 h2
  rw [h1, h2]
  simp
theorem plc_at {E : List M.Ent} {p : M.Ent} : ∀ {k : Nat} {q : M.Ent}, k ≤ plc E p → E[k]? = some q → (M.bef q p = true ↔ k < plc E p) := by
  unfold plc
  induction E with
  | nil => intro k q _ h; simp at h
  | cons x E ih =>
    intro k q hk hq
    rw [List.takeWhile_cons] at hk ⊢
    by_cases e : M.bef x p = true
    · rw [if_pos e] at hk ⊢
      cases k with
      | zero =>
        simp at hq
        subst hq
        exact ⟨fun _ => by simp, fun _ => e⟩
      | succ k =>
        have := ih (k := k) (q := q) (by simpa using hk) (by simpa using hq)
        rw [this]
        simp
    · rw [if_neg e] at hk ⊢
      have : k = 0 := by simpa using hk
      subst this
      simp at hq
      subst hq
      simp [e]
/-- What is stored behind the search: the slices, the appends. -/
theorem rset_mem (w : World) (gr : Nat) (a : Option Addr) (c : Nat) (clock : Int) (E : List M.Ent) (h : Rm w gr a c clock E) (hl : E.length ≤ 1024) (p : M.Ent) (n : Nat) (hn : plc E p = n) (a' : Option Addr) (ha' : RowE w a' (E.drop n)) (hna : a' = none → c - n = 0) :
    ∃ (a1 : Option Addr) (k1 : Nat) (W1 : World) (a2 : Option Addr) (k2 : Nat) (W2 : World) (a3 : Option Addr) (k3 : Nat) (W3 : World),
      (Builtin.append_ #[27, 27] 27 #[.slice none 0 0, .slice a n c]).run Try.prog w = .ok (.slice a1 n k1) W1 ∧
      (Builtin.append_ #[27, 27] 27 #[.slice a1 n k1, .slice (some ⟨W1.heap.size, 0, none⟩) 1 1]).run Try.prog (W1.drew.alloc (.cells #[.int .i64 p.1, .int .i64 p.2] 70)) = .ok (.slice a2 (n + 1) k2) W2 ∧
      (Builtin.append_ #[27, 27] 27 #[.slice a2 (n + 1) k2, .slice a' (E.length - n) (c - n)]).run Try.prog W2 = .ok (.slice a3 (n + 1 + (E.length - n)) k3) W3 ∧
      But (fun _ => False) w W1 ∧ But (fun _ => False) w (W1.drew.alloc (.cells #[.int .i64 p.1, .int .i64 p.2] 70)) ∧ But (fun _ => False) w W2 ∧ But (fun _ => False) w W3 ∧
      Rm (W3.setCell ⟨gr, 1, none⟩ (.slice a3 (n + 1 + (E.length - n)) k3)) gr a3 k3 clock (M.insE E p) ∧ But (fun k => k = gr) w (W3.setCell ⟨gr, 1, none⟩ (.slice a3 (n + 1 + (E.length - n)) k3)) ∧ ∀ k, AtB a3 k → w.heap.size ≤ k := by
  have hle := plc_le E p
  rw [hn] at hle
  have nb : ∀ k, ¬ AtB none k := fun k ⟨x, hx, _⟩ => by cases hx
  obtain ⟨a1, k1, W1, s1, s2, s3, s4⟩ := run_appE w 27 none 0 [] a c (E.take n) (ownE_nil _) (h.row.take n) h.nil (by simp; omega)
  have s3' : But (fun _ => False) w W1 := s3.mono (fun _ _ x => nb _ x)
  have s4' : ∀ k, AtB a1 k → w.heap.size ≤ k := fun k hk => (s4 k hk).resolve_left (nb k)
  obtain ⟨Wd, hWd⟩ : ∃ Wd, W1.drew.alloc (.cells #[.int .i64 p.1, .int .i64 p.2] 70) = Wd := ⟨_, rfl⟩
  have bd : But (fun _ => False) W1 Wd := hWd ▸ ((But.refl _ W1).drew).alloc _
  have bB : Blk Wd W1.heap.size 70 #[.int .i64 p.1, .int .i64 p.2] := hWd ▸ blk_new W1.drew _ _
  have ro : RowE Wd (some ⟨W1.heap.size, 0, none⟩) [p] := fun _ => ⟨W1.heap.size, 0, rfl, fun i q hq => by
    have hi : i < 1 := by
      have := (List.getElem?_eq_some_iff.1 hq).1
      simpa using this
    have : i = 0 := by omega
    subst this
    simp at hq
    subst hq
    exact ⟨bB.cell 0 _ rfl, bB.cell 1 _ rfl⟩⟩
  obtain ⟨a2, k2, W2, t1, t2, t3, t4⟩ := run_appE Wd 27 a1 k1 ([] ++ E.take n) (some ⟨W1.heap.size, 0, none⟩) 1 [p] (s2.but bd (fun _ _ x => x)) ro (fun x => by cases x) (by simp; omega)
  have b2 : But (fun _ => False) w W2 := (s3'.trans bd (fun _ _ x => x)).trans t3 (fun k hk x => by have := s4' k x; omega)
  have t4' : ∀ k, AtB a2 k → w.heap.size ≤ k := fun k hk => by
    rcases t4 k hk with x | x
    · exact s4' k x
    · exact Nat.le_trans (s3'.trans bd (fun _ _ x => x)).size x
  obtain ⟨a3, k3, W3, u1, u2, u3, u4⟩ := run_appE W2 27 a2 k2 ([] ++ E.take n ++ [p]) a' (c - n) (E.drop n) t2 (ha'.but b2 (fun _ _ x => x)) hna (by simp; omega)
  have b3 : But (fun _ => False) w W3 := b2.trans u3 (fun k hk x => by have := t4' k x; omega)
  have u4' : ∀ k, AtB a3 k → w.heap.size ≤ k := fun k hk => by
    rcases u4 k hk with x | x
    · exact t4' k x
    · exact Nat.le_trans b2.size x
  have e1 : [] ++ E.take n ++ [p] ++ E.drop n = M.insE E p := by rw [List.nil_append, ← hn]; exact plc_ins E p
  rw [e1] at u2
  obtain ⟨st1, st2⟩ := h.stored b3 u2 u4'
  have l0 : (E.take n).length = n := by simp; omega
  have l1 : ([] ++ E.take n).length = n := by simp; omega
  have l2 : ([] ++ E.take n ++ [p]).length = n + 1 := by simp; omega
  have l3 : (E.drop n).length = E.length - n := by simp
  have l4 : (M.insE E p).length = n + 1 + (E.length - n) := by rw [← e1, List.length_append, l2, l3]
  have l5 : ([] : List M.Ent).length + (E.take n).length = n := by simp; omega
  have l6 : ([p] : List M.Ent).length = 1 := rfl
  rw [l5, l0] at s1
  rw [l1, l6] at t1
  rw [l2, l3] at u1
  rw [l4] at st1 st2
  exact ⟨a1, k1, W1, a2, k2, W2, a3, k3, W3, s1, by rw [hWd]; exact t1, u1, s3', by rw [hWd]; exact s3'.trans bd (fun _ _ x => x), b2, b3, st1, st2, u4'⟩
end Go.Proofs.Ytfcpjenlckkloaa
