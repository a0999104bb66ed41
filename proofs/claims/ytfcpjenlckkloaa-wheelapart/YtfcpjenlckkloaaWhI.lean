/- Set that is taken; Drop. -/
import Derived.Test.YtfcpjenlckkloaaWhH
namespace Go.Proofs.Ytfcpjenlckkloaa
open Go.RowKit
set_option linter.unusedVariables false
set_option linter.unusedSimpArgs false

theorem WF.trans {g m : Nat} {sl sl' : List Sl} {w w' : World} (h1 : ∀ j, WF g m sl' j → WF g m sl j ∨ w.heap.size ≤ j) {sl2 : List Sl} (h2 : ∀ j, WF g m sl2 j → WF g m sl' j ∨ w'.heap.size ≤ j) (hs : w.heap.size ≤ w'.heap.size) : ∀ j, WF g m sl2 j → WF g m sl j ∨ w.heap.size ≤ j := fun j hj => by
  rcases h2 j hj with x | x
  · exact h1 j x
  · exact .inr (Nat.le_trans hs x)
theorem But.wf {g m : Nat} {sl sl' : List Sl} {a b c : World} (h : But (WF g m sl) a b) (k : But (WF g m sl') b c) (h1 : ∀ j, WF g m sl' j → WF g m sl j ∨ a.heap.size ≤ j) : But (WF g m sl) a c :=
  h.trans k (fun n hn hf => by
    rcases h1 n hf with x | x
    · exact x
    · omega)
/-- The map's store and putIn, behind it. -/
theorem set_tail (w : World) (g m : Nat) (now : Int) (E : List M.Ent) (sl : List Sl) (h : Wm w g m now E sl) (id at_ : Int) (hi : In64 id) (h0 : 0 ≤ at_) (h1 : at_ ≤ 4611686018427387904) (hin : In now (fun x u => (x, u) ∈ E ∧ x ≠ id) sl) (hf : (M.setE E id at_).length ≤ 1024) :
    ∃ w', (Instr.mapUpdate 53 (.map (some m)) (.int .i64 id) (.int .i64 at_)).run Try.prog w = .ok () w' ∧ w'.cell? ⟨g, 2, none⟩ = some (.map (some m)) ∧
      Calls Try.prog 30 #[.pointer (some ⟨g, 0, none⟩), .int .i64 id] w' fun e w2 => e = .returned (.tuple #[]) ∧ ∃ sl', Wm w2 g m now (M.setE E id at_) sl' ∧ In now (fun x t => (x, t) ∈ M.setE E id at_) sl' ∧ But (WF g m sl) w w2 ∧ (∀ j, WF g m sl' j → WF g m sl j ∨ w.heap.size ≤ j) := by
  obtain ⟨w', r1, r2, r3⟩ := h.map.store h.ok h.few hi h0 h1
  have hb : 0 ≤ at_ ∧ at_ ≤ 4611686018427387904 ∧ -9223372036854775808 ≤ id ∧ id ≤ 9223372036854775807 := ⟨h0, h1, hi.1, hi.2⟩
  have w1 := h.mapped r2 r3 (h.ok.set hb) hf
  refine ⟨w', r1, w1.blk.cell 2 _ (wc_2 ..), ?_⟩
  refine (putIn_in w' g m now _ sl w1 _ (fun x t hx => M.mem_setE.2 (.inr hx)) hin id at_ (h.ok.tm_set_same hb) (fun u hu => hu.2 rfl)).mono ?_
  rintro e w2 ⟨rfl, sl', k1, k2, k3, k4⟩
  have b0 : But (WF g m sl) w w' := r3.mono (fun n _ e => .inr (.inl e))
  refine ⟨rfl, sl', k1, k2.congr (fun x t => ?_), b0.trans k3 (fun _ _ x => x), fun j hj => ?_⟩
  · rw [M.mem_setE, Prod.mk.injEq]
    exact ⟨fun hx => hx.elim (fun y => .inr y) (fun y => .inl y), fun hx => hx.elim (fun y => .inr y) (fun y => .inl y)⟩
  · rcases k4 j hj with x | x
    · exact .inl x
    · exact .inr (Nat.le_trans r3.size x)
/-- What Set leaves. -/
def SetPost (w : World) (g m : Nat) (now : Int) (E' : List M.Ent) (sl : List Sl) (w2 : World) : Prop := ∃ sl', Wm w2 g m now E' sl' ∧ In now (fun x t => (x, t) ∈ E') sl' ∧ But (WF g m sl) w w2 ∧ (∀ j, WF g m sl' j → WF g m sl j ∨ w.heap.size ≤ j)
set_option maxRecDepth 100000 in
set_option maxHeartbeats 4000000 in
theorem set_new (w : World) (g m : Nat) (now : Int) (E : List M.Ent) (sl : List Sl) (h : Wm w g m now E sl) (hin : In now (fun x t => (x, t) ∈ E) sl) (id at_ : Int) (hi : In64 id) (hr : rtB at_ = true) (ht : M.tm E id = none) (hl : E.length < 1024) :
    Calls Try.prog 14 #[.pointer (some ⟨g, 0, none⟩), .int .i64 id, .int .i64 at_] w fun e w' => e = .returned (.int .i64 0) ∧ SetPost w g m now (M.setE E id at_) sl w' := by
  have hb : 0 ≤ at_ ∧ at_ ≤ 4611686018427387904 := by simpa [rtB] using hr
  have c0 := h.blk.cell 0 _ (wc_0 ..)
  have c2 := h.blk.cell 2 _ (wc_2 ..)
  have K := isMade_at g true w c0
  have KR := rightTime_any at_ w
  rw [hr] at KR
  have L := h.map.look2 hi
  rw [ht] at L
  simp only [Option.isSome_none, Option.getD_none] at L
  have LL := h.map.len 3
  have h4 : (↑E.length : Int) < 1024 := by omega
  obtain ⟨W1, u1, u2, u3⟩ := set_tail w g m now E sl h id at_ hi hb.1 hb.2 (hin.congr (fun x t => ⟨fun hx => ⟨hx, fun e => M.tm_none.1 ht t (e ▸ hx)⟩, fun hx => hx.1⟩)) (by rw [h.ok.len_set, ht]; simp; omega)
  have U3 : Hid (Calls Try.prog 30 #[.pointer (some ⟨g, 0, none⟩), .int .i64 id] W1 fun e w2 => e = .returned (.tuple #[]) ∧ SetPost w g m now (M.setE E id at_) sl w2) := u3
  clear u3
  generalize SetPost w g m now (M.setE E id at_) sl = Q at U3 ⊢
  clear h hb hr hin ht hl
  generalize E.length = n at *
  go_enter Try.func14, Try.ntmps14
  go_wp2_with fail
  refine Calls.mono K ?_
  rintro e w' ⟨rfl, rfl⟩
  go_wp2_with fail
  refine Calls.mono KR ?_
  rintro e w' ⟨rfl, rfl⟩
  go_wp2_with fail
  refine Calls.mono U3.out ?_
  rintro e w' ⟨rfl, q⟩
  go_wp2
  go_ret
  exact ⟨rfl, q⟩
set_option maxHeartbeats 4000000 in
theorem set_old (w : World) (g m : Nat) (now : Int) (E : List M.Ent) (sl : List Sl) (h : Wm w g m now E sl) (hin : In now (fun x t => (x, t) ∈ E) sl) (id at_ t : Int) (hi : In64 id) (hr : rtB at_ = true) (ht : M.tm E id = some t) :
    Calls Try.prog 14 #[.pointer (some ⟨g, 0, none⟩), .int .i64 id, .int .i64 at_] w fun e w' => e = .returned (.int .i64 0) ∧ SetPost w g m now (M.setE E id at_) sl w' := by
  have hb : 0 ≤ at_ ∧ at_ ≤ 4611686018427387904 := by simpa [rtB] using hr
  have c0 := h.blk.cell 0 _ (wc_0 ..)
  have c2 := h.blk.cell 2 _ (wc_2 ..)
  have K := isMade_at g true w c0
  have KR := rightTime_any at_ w
  rw [hr] at KR
  have L := h.map.look2 hi
  rw [ht] at L
  simp only [Option.isSome_some, Option.getD_some] at L
  have T : Hid (Calls Try.prog 29 #[.pointer (some ⟨g, 0, none⟩), .int .i64 id] w fun e w' => e = .returned (.tuple #[]) ∧ w'.cell? ⟨g, 2, none⟩ = some (.map (some m)) ∧ ∃ W1, (Instr.mapUpdate 53 (.map (some m)) (.int .i64 id) (.int .i64 at_)).run Try.prog w' = .ok () W1 ∧ W1.cell? ⟨g, 2, none⟩ = some (.map (some m)) ∧
      Calls Try.prog 30 #[.pointer (some ⟨g, 0, none⟩), .int .i64 id] W1 fun e w2 => e = .returned (.tuple #[]) ∧ SetPost w g m now (M.setE E id at_) sl w2) := by
    refine (takeOut_in w g m now E sl h hin id t ht).mono ?_
    rintro e w' ⟨rfl, sl1, k1, k2, k3, k4⟩
    refine ⟨rfl, k1.blk.cell 2 _ (wc_2 ..), ?_⟩
    obtain ⟨W1, u1, u2, u3⟩ := set_tail w' g m now E sl1 k1 id at_ hi hb.1 hb.2 k2 (by rw [h.ok.len_set, ht]; simpa using h.few)
    refine ⟨W1, u1, u2, u3.mono ?_⟩
    rintro e w2 ⟨rfl, sl', q1, q2, q3, q4⟩
    exact ⟨rfl, sl', q1, q2, k3.wf q3 k4, WF.trans k4 q4 k3.size⟩
  generalize SetPost w g m now (M.setE E id at_) sl = Q at T ⊢
  clear h hb hr hin ht
  go_enter Try.func14, Try.ntmps14
  go_wp2_with fail
  refine Calls.mono K ?_
  rintro e w' ⟨rfl, rfl⟩
  go_wp2_with fail
  refine Calls.mono KR ?_
  rintro e w' ⟨rfl, rfl⟩
  go_wp2_with fail
  refine Calls.mono T.out ?_
  rintro e w1 ⟨rfl, z2, W1, u1, u2, u3⟩
  have u3 := hidW u3
  clear T K KR L
  go_wp2_with fail
  refine Calls.mono u3.out ?_
  rintro e w2 ⟨rfl, q⟩
  go_wp2
  go_ret
  exact ⟨rfl, q⟩
/-- Set. -/
theorem set_any (w : World) (g : Nat) (F : Nat → Prop) (now : Int) (E : List M.Ent) (h : Whl w g F now E) (id at_ : Int) (hi : In64 id) :
    Calls Try.prog 14 #[.pointer (some ⟨g, 0, none⟩), .int .i64 id, .int .i64 at_] w fun e w' => e = .returned (.int .i64 (setR E id at_)) ∧ Whl w' g (nx F w w') now (setS E id at_) ∧ But F w w' := by
  obtain ⟨m, sl, h1, h2, h3⟩ := h.ex
  have mk : ∀ w' E', SetPost w g m now E' sl w' → Whl w' g (nx F w w') now E' ∧ But F w w' := fun w' E' ⟨sl', q1, q2, q3, q4⟩ =>
    ⟨whl_mk q1 q2 (fun k hk => (q4 k hk).imp (h3 k) (fun x => x)) h.lt q3.size, q3.mono (fun n _ hn => h3 n hn)⟩
  by_cases hr : setR E id at_ = 0
  · have hs : setS E id at_ = M.setE E id at_ := by unfold setS; rw [if_pos hr]
    rw [hs, hr]
    have hr1 : rtB at_ = true := by
      unfold setR at hr
      cases e : rtB at_
      · simp [e] at hr
      · rfl
    have hr2 : ¬ (M.tm E id = none ∧ 1024 ≤ E.length) := by
      unfold setR at hr
      intro x
      rw [if_neg (by simp [hr1]), if_pos x] at hr
      cases hr
    cases ht : M.tm E id with
    | none => exact (set_new w g m now E sl h1 h2 id at_ hi hr1 ht (by rw [ht] at hr2; simp at hr2; omega)).mono (fun e w' hq => ⟨hq.1, mk w' _ hq.2⟩)
    | some t => exact (set_old w g m now E sl h1 h2 id at_ t hi hr1 ht).mono (fun e w' hq => ⟨hq.1, mk w' _ hq.2⟩)
  · have hs : setS E id at_ = E := by unfold setS; rw [if_neg hr]
    rw [hs]
    refine (set_n w g m now E sl h1 id at_ hi hr).mono ?_
    rintro e w' ⟨rfl, rfl⟩
    exact ⟨rfl, mk w' E ⟨sl, h1, h2, But.refl _ _, fun _ x => .inl x⟩⟩
/-! ### Drop -/
set_option maxHeartbeats 4000000 in
theorem drop_at (w : World) (g m : Nat) (now : Int) (E : List M.Ent) (sl : List Sl) (h : Wm w g m now E sl) (hin : In now (fun x t => (x, t) ∈ E) sl) (id : Int) (hi : In64 id) :
    Calls Try.prog 18 #[.pointer (some ⟨g, 0, none⟩), .int .i64 id] w fun e w' => e = .returned (.bool (M.tm E id).isSome) ∧ SetPost w g m now (M.dropE E id) sl w' := by
  have K := time_at w g m now E sl h id hi
  cases ht : M.tm E id with
  | none =>
    rw [ht] at K
    simp only [Option.isSome_none, Option.getD_none] at K ⊢
    rw [M.dropE_none ht]
    have q : SetPost w g m now E sl w := ⟨sl, h, hin, But.refl _ _, fun _ x => .inl x⟩
    generalize SetPost w g m now E sl = Q at q ⊢
    clear h hin ht
    go_enter Try.func18, Try.ntmps18
    go_wp2_with fail
    refine Calls.mono K ?_
    rintro e w' ⟨rfl, rfl⟩
    go_wp2
    go_ret
    exact ⟨rfl, q⟩
  | some t =>
    rw [ht] at K
    simp only [Option.isSome_some, Option.getD_some] at K ⊢
    have T : Hid (Calls Try.prog 29 #[.pointer (some ⟨g, 0, none⟩), .int .i64 id] w fun e w' => e = .returned (.tuple #[]) ∧ w'.cell? ⟨g, 2, none⟩ = some (.map (some m)) ∧ ∃ W1, (Builtin.delete_ #[53, 3] 0 #[.map (some m), .int .i64 id]).run Try.prog w' = .ok (.tuple #[]) W1 ∧ SetPost w g m now (M.dropE E id) sl W1) := by
      refine (takeOut_in w g m now E sl h hin id t ht).mono ?_
      rintro e w' ⟨rfl, sl1, k1, k2, k3, k4⟩
      refine ⟨rfl, k1.blk.cell 2 _ (wc_2 ..), ?_⟩
      obtain ⟨W1, r1, r2, r3⟩ := k1.map.drop k1.ok hi 0
      have hl := k1.ok.len_drop ht
      have hf := k1.few
      have w1 := k1.mapped r2 r3 (k1.ok.drop id) (by omega)
      exact ⟨W1, r1, sl1, w1, k2.congr (fun x t => by rw [M.mem_dropE]), k3.wf (r3.mono (fun n _ e => .inr (.inl e))) k4, k4⟩
    generalize SetPost w g m now (M.dropE E id) sl = Q at T ⊢
    clear h hin ht
    go_enter Try.func18, Try.ntmps18
    go_wp2_with fail
    refine Calls.mono K ?_
    rintro e w' ⟨rfl, rfl⟩
    go_wp2_with fail
    refine Calls.mono T.out ?_
    rintro e w1 ⟨rfl, z2, W1, u1, q⟩
    clear T K
    go_wp2
    go_ret
    exact ⟨rfl, q⟩
theorem drop_any (w : World) (g : Nat) (F : Nat → Prop) (now : Int) (E : List M.Ent) (h : Whl w g F now E) (id : Int) (hi : In64 id) :
    Calls Try.prog 18 #[.pointer (some ⟨g, 0, none⟩), .int .i64 id] w fun e w' => e = .returned (.bool (M.tm E id).isSome) ∧ Whl w' g (nx F w w') now (M.dropE E id) ∧ But F w w' := by
  obtain ⟨m, sl, h1, h2, h3⟩ := h.ex
  refine (drop_at w g m now E sl h1 h2 id hi).mono ?_
  rintro e w' ⟨rfl, sl', q1, q2, q3, q4⟩
  exact ⟨rfl, whl_mk q1 q2 (fun k hk => (q4 k hk).imp (h3 k) (fun x => x)) h.lt q3.size, q3.mono (fun n _ hn => h3 n hn)⟩
theorem time_any (w : World) (g : Nat) (F : Nat → Prop) (now : Int) (E : List M.Ent) (h : Whl w g F now E) (id : Int) (hi : In64 id) :
    Calls Try.prog 20 #[.pointer (some ⟨g, 0, none⟩), .int .i64 id] w fun e w' => e = .returned (.tuple #[.int .i64 ((M.tm E id).getD 0), .bool (M.tm E id).isSome]) ∧ w' = w := by
  obtain ⟨m, sl, h1, h2, h3⟩ := h.ex
  exact time_at w g m now E sl h1 id hi
theorem len_any (w : World) (g : Nat) (F : Nat → Prop) (now : Int) (E : List M.Ent) (h : Whl w g F now E) :
    Calls Try.prog 17 #[.pointer (some ⟨g, 0, none⟩)] w fun e w' => e = .returned (.int .i64 E.length) ∧ w' = w := by
  obtain ⟨m, sl, h1, h2, h3⟩ := h.ex
  exact len_at w g m now E sl h1
theorem now_any (w : World) (g : Nat) (F : Nat → Prop) (now : Int) (E : List M.Ent) (h : Whl w g F now E) :
    Calls Try.prog 15 #[.pointer (some ⟨g, 0, none⟩)] w fun e w' => e = .returned (.int .i64 now) ∧ w' = w := by
  obtain ⟨m, sl, h1, h2, h3⟩ := h.ex
  exact now_at w g m now E sl h1
end Go.Proofs.Ytfcpjenlckkloaa
