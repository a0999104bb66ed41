/- New, Set, Drop. -/
import Derived.Test.YtfcpjenlckkloaaWhG
namespace Go.Proofs.Ytfcpjenlckkloaa
open Go.RowKit
set_option linter.unusedVariables false
set_option linter.unusedSimpArgs false

theorem nodup_len : ∀ {l k : List Int}, l.Nodup → (∀ x ∈ l, x ∈ k) → l.length ≤ k.length
  | [], _, _, _ => Nat.zero_le _
  | x :: l, k, hn, hs => by
    obtain ⟨h1, h2⟩ := List.nodup_cons.1 hn
    have hx := hs x (by simp)
    have := nodup_len (k := k.erase x) h2 (fun y hy => (List.mem_erase_of_ne (fun e : y = x => h1 (by rw [← e]; exact hy))).2 (hs y (by simp [hy])))
    rw [List.length_erase_of_mem hx] at this
    have hp : 0 < k.length := List.length_pos_of_mem hx
    simp only [List.length_cons]
    omega
theorem In.len {now : Int} {A : Int → Int → Prop} {sl : List Sl} (h : In now A sl) {E : List M.Ent} (hA : ∀ x t, A x t → (x, t) ∈ E) {k : Nat} {s : Sl} (hs : sl[k]? = some s) : s.ids.length ≤ E.length := by
  obtain ⟨h1, h2⟩ := h k s hs
  have := nodup_len (k := E.map (·.1)) h1 (fun x hx => by
    obtain ⟨t, h3, _⟩ := (h2 x).1 hx
    exact List.mem_map.2 ⟨_, hA x t h3, rfl⟩)
  simpa using this
theorem In.congr {now : Int} {A A' : Int → Int → Prop} {sl : List Sl} (h : In now A sl) (hA : ∀ x t, A x t ↔ A' x t) : In now A' sl := fun k s hs =>
  ⟨(h k s hs).1, fun x => ((h k s hs).2 x).trans ⟨fun ⟨t, h1, h2⟩ => ⟨t, (hA x t).1 h1, h2⟩, fun ⟨t, h1, h2⟩ => ⟨t, (hA x t).2 h1, h2⟩⟩⟩
theorem set_get {sl : List Sl} {i k : Nat} {s s' t : Sl} (hs : sl[i]? = some s) (h : (sl.set i s')[k]? = some t) : (k = i ∧ t = s') ∨ (k ≠ i ∧ sl[k]? = some t) := by
  have hil : i < sl.length := (List.getElem?_eq_some_iff.1 hs).1
  rw [List.getElem?_set] at h
  split at h
  · rename_i e
    simp [hil] at h
    exact .inl ⟨e.symm, h.symm⟩
  · rename_i e
    exact .inr ⟨fun x => e x.symm, h⟩
theorem In.put {now : Int} {A : Int → Int → Prop} {sl : List Sl} (h : In now A sl) {id t : Int} {s : Sl} (hs : sl[M.slot now t]? = some s) (hn : ∀ u, ¬ A id u) (a : Option Addr) (c : Nat) :
    In now (fun x u => A x u ∨ (x = id ∧ u = t)) (sl.set (M.slot now t) ⟨a, c, s.ids ++ [id]⟩) := fun k s' hk => by
  rcases set_get hs hk with ⟨rfl, rfl⟩ | ⟨hne, hk⟩
  · obtain ⟨h1, h2⟩ := h _ s hs
    refine ⟨List.nodup_append.2 ⟨h1, by simp, fun x hx y hy e => ?_⟩, fun x => ?_⟩
    · simp at hy
      obtain ⟨u, h3, _⟩ := (h2 x).1 hx
      rw [e, hy] at h3
      exact hn u h3
    · simp only [List.mem_append, List.mem_singleton]
      constructor
      · rintro (hx | rfl)
        · obtain ⟨u, h3, h4⟩ := (h2 x).1 hx
          exact ⟨u, .inl h3, h4⟩
        · exact ⟨t, .inr ⟨rfl, rfl⟩, rfl⟩
      · rintro ⟨u, h3 | ⟨rfl, rfl⟩, h4⟩
        · exact .inl ((h2 x).2 ⟨u, h3, h4⟩)
        · exact .inr rfl
  · obtain ⟨h1, h2⟩ := h k s' hk
    refine ⟨h1, fun x => ?_⟩
    rw [h2 x]
    constructor
    · rintro ⟨u, h3, h4⟩
      exact ⟨u, .inl h3, h4⟩
    · rintro ⟨u, h3 | ⟨rfl, rfl⟩, h4⟩
      · exact ⟨u, h3, h4⟩
      · exact absurd h4.symm hne
theorem In.take {now : Int} {A : Int → Int → Prop} {sl : List Sl} (h : In now A sl) {id t : Int} {s : Sl} (hs : sl[M.slot now t]? = some s) (hf : ∀ u, A id u → u = t) (a : Option Addr) (c : Nat) {i : Nat} (hi : i < s.ids.length) (hd : s.ids.getD i 0 = id) :
    In now (fun x u => A x u ∧ x ≠ id) (sl.set (M.slot now t) ⟨a, c, less s.ids i⟩) := fun k s' hk => by
  rcases set_get hs hk with ⟨rfl, rfl⟩ | ⟨hne, hk⟩
  · obtain ⟨h1, h2⟩ := h _ s hs
    refine ⟨nodup_less h1 i, fun x => ?_⟩
    show x ∈ less s.ids i ↔ _
    rw [mem_less h1 hi, hd, h2 x]
    exact ⟨fun ⟨⟨u, h3, h4⟩, h5⟩ => ⟨u, ⟨h3, h5⟩, h4⟩, fun ⟨u, ⟨h3, h5⟩, h4⟩ => ⟨⟨u, h3, h4⟩, h5⟩⟩
  · obtain ⟨h1, h2⟩ := h k s' hk
    refine ⟨h1, fun x => ?_⟩
    rw [h2 x]
    constructor
    · rintro ⟨u, h3, h4⟩
      refine ⟨u, ⟨h3, fun e => ?_⟩, h4⟩
      rw [e] at h3
      rw [hf u h3] at h4
      exact hne h4.symm
    · rintro ⟨u, ⟨h3, _⟩, h4⟩
      exact ⟨u, h3, h4⟩
theorem Wm.slotOf {w : World} {g m : Nat} {now : Int} {E : List M.Ent} {sl : List Sl} (h : Wm w g m now E sl) {t : Int} (ht : t ≤ 4611686018427387904) : ∃ s, sl[M.slot now t]? = some s := by
  have hl := M.slot_lt h.now0 h.now1 ht
  rw [← h.len] at hl
  exact ⟨_, List.getElem?_eq_getElem hl⟩
theorem Put.wf {w w' : World} {g m : Nat} {now : Int} {E : List M.Ent} {sl : List Sl} {k : Nat} {s s' : Sl} (h : Put w w' g m now E sl k s s') (hs : sl[k]? = some s) {j : Nat} (hj : WF g m (sl.set k s') j) : WF g m sl j ∨ w.heap.size ≤ j := by
  rcases hj with e | e | ⟨i, t, h1, h2⟩
  · exact .inl (.inl e)
  · exact .inl (.inr (.inl e))
  · rcases set_get hs h1 with ⟨rfl, rfl⟩ | ⟨_, h1⟩
    · rcases h.at_ j h2 with h3 | h3
      · exact .inl (.inr (.inr ⟨_, s, hs, h3⟩))
      · exact .inr h3
    · exact .inl (.inr (.inr ⟨i, t, h1, h2⟩))
theorem Put.butF {w w' : World} {g m : Nat} {now : Int} {E : List M.Ent} {sl : List Sl} {k : Nat} {s s' : Sl} (h : Put w w' g m now E sl k s s') (hs : sl[k]? = some s) : But (WF g m sl) w w' :=
  h.but.mono (fun j _ hj => by
    rcases hj with e | e
    · exact .inl e
    · exact .inr (.inr ⟨k, s, hs, e⟩))

/-! ### New -/
theorem wpList_build {ops : Array Oper} {Q : Exit → Act → World → Prop} {rest : List Oper} {o : Oper} {a : Act} (w : World) (hg : o.guard = none) (t : TypeId) (parts : Array (Nat × Operand)) (ho : o.op = Op.build t parts)
    (vs : Array (Nat × Value)) (hv : parts.map (fun p => (p.1, a.eval p.2)) = vs) (r : Value) (hrun : (Instr.build t vs).run Try.prog w = .ok r w) (h : wpList Try.prog ops Q rest (a.put o.dst r) w) : wpList Try.prog ops Q (o :: rest) a w := by
  refine wpList_plain hg fun K hK => ?_
  unfold Oper.wp
  subst hv
  simp [execOp, ho, hrun, Result.andThen]
  exact hK _ _ h
def sl0 : List Sl := List.replicate 704 nilSl
theorem new_n (now : Int) (w : World) (h : rtB now = false) : Calls Try.prog 9 #[.int .i64 now] w fun e w' => e = .returned (.tuple #[.pointer none, .int .i64 25]) ∧ w' = w := by
  have K := rightTime_any now w
  rw [h] at K
  go_enter Try.func9, Try.ntmps9
  go_wp2_with fail
  refine Calls.mono K ?_
  rintro e w' ⟨rfl, rfl⟩
  go_wp2
  go_ret2
  exact ⟨rfl, rfl⟩
set_option maxRecDepth 100000 in
set_option maxHeartbeats 4000000 in
theorem new_y (now : Int) (w : World) (h : rtB now = true) : Calls Try.prog 9 #[.int .i64 now] w fun e w' => e = .returned (.tuple #[.pointer (some ⟨w.heap.size + 1, 0, none⟩), .int .i64 0]) ∧ w' = (w.alloc (.map #[] 0)).alloc (.cells (wc now w.heap.size sl0) 57) := by
  have K := rightTime_any now w
  rw [h] at K
  have hmm := @run_makeMap Try.prog
  obtain ⟨W1, hW1⟩ : ∃ W, w.alloc (.map #[] 0) = W := ⟨_, rfl⟩
  have z1 : W1.heap.size = w.heap.size + 1 := by rw [← hW1]; simp
  have hb : (Instr.build 57 #[(0, .bool true), (1, .int .i64 now), (2, .map (some w.heap.size))]).run Try.prog W1 = .ok (.agg (wc now w.heap.size sl0)) W1 := by kernel_rfl
  have hsz : (wc now w.heap.size sl0).size = 707 := by simp [wc, sl0]
  generalize wc now w.heap.size sl0 = CS at *
  go_enter Try.func9, Try.ntmps9
  go_wp2_with fail
  refine Calls.mono K ?_
  rintro e w' ⟨rfl, rfl⟩
  go_wp2_with (refine wpList_build _ rfl _ _ rfl _ (by first | rfl | kernel_rfl | simp [go_sem]) _ hb ?_)
  go_ret2
  refine ⟨rfl, ?_⟩
  rw [hW1]
theorem sl0_get {k : Nat} {s : Sl} (h : sl0[k]? = some s) : s = nilSl := by
  unfold sl0 at h
  rw [List.getElem?_replicate] at h
  split at h
  · exact (Option.some.inj h).symm
  · cases h
theorem new_whl (now : Int) (w : World) (h : rtB now = true) :
    Whl ((w.alloc (.map #[] 0)).alloc (.cells (wc now w.heap.size sl0) 57)) (w.heap.size + 1) (fun k => k = w.heap.size ∨ k = w.heap.size + 1) now [] := by
  have hr : 0 ≤ now ∧ now ≤ 4611686018427387904 := by simpa [rtB] using h
  have b := blk_new (w.alloc (.map #[] 0)) (wc now w.heap.size sl0) 57
  have e : (w.alloc (.map #[] 0)).heap.size = w.heap.size + 1 := by simp
  rw [e] at b
  refine ⟨⟨w.heap.size, sl0, ⟨b, (MapT.new w).but ((But.refl (fun _ => False) _).alloc _) (fun x => x), List.length_replicate, fun k s hs => ?_, fun i j s s' hs hs' _ => ?_, M.Ok.nil, by simp, hr.1, hr.2⟩, fun k s hs => ?_, fun k hk => ?_⟩, fun k hk => ?_⟩
  · rw [sl0_get hs]; exact nilSl_own _
  · rw [sl0_get hs]; exact fun k hk => absurd hk (nil_at k)
  · rw [sl0_get hs]
    refine ⟨List.nodup_nil, fun x => ?_⟩
    simp [nilSl]
  · rcases hk with e | e | ⟨i, s, h1, h2⟩
    · exact .inr e
    · exact .inl e
    · rw [sl0_get h1] at h2; exact absurd h2 (nil_at k)
  · have : ((w.alloc (.map #[] 0)).alloc (.cells (wc now w.heap.size sl0) 57)).heap.size = w.heap.size + 2 := by simp
    rw [this]
    omega
theorem new_below (now : Int) (w : World) : Below w.heap.size w ((w.alloc (.map #[] 0)).alloc (.cells (wc now w.heap.size sl0) 57)) := ((Below.refl _ _).alloc (Nat.le_refl _) _).alloc (by simp) _

/-! ### Set -/
/-- What Set answers, and leaves. -/
def setR (E : List M.Ent) (id at_ : Int) : Int := if rtB at_ = false then 25 else if M.tm E id = none ∧ 1024 ≤ E.length then 12 else 0
def setS (E : List M.Ent) (id at_ : Int) : List M.Ent := if setR E id at_ = 0 then M.setE E id at_ else E
/-- putIn, all in one. -/
theorem putIn_in (w : World) (g m : Nat) (now : Int) (E : List M.Ent) (sl : List Sl) (h : Wm w g m now E sl) (A : Int → Int → Prop) (hA : ∀ x t, A x t → (x, t) ∈ E) (hin : In now A sl) (id t : Int) (ht : M.tm E id = some t) (hn : ∀ u, ¬ A id u) :
    Calls Try.prog 30 #[.pointer (some ⟨g, 0, none⟩), .int .i64 id] w fun e w' => e = .returned (.tuple #[]) ∧ ∃ sl', Wm w' g m now E sl' ∧ In now (fun x u => A x u ∨ (x = id ∧ u = t)) sl' ∧ But (WF g m sl) w w' ∧ (∀ j, WF g m sl' j → WF g m sl j ∨ w.heap.size ≤ j) := by
  have hb := h.ok.bnd _ ((h.ok.tm_iff id t).1 ht)
  obtain ⟨s, hs⟩ := h.slotOf hb.2.1
  have hl := hin.len hA hs
  have hf := h.few
  refine (putIn_any w g m now E sl h id t ⟨hb.2.2.1, hb.2.2.2⟩ ht s hs (by omega)).mono ?_
  rintro e w' ⟨rfl, a, c, P⟩
  exact ⟨rfl, _, P.wm, hin.put hs hn a c, P.butF hs, fun j hj => P.wf hs hj⟩
/-- takeOut, all in one. -/
theorem takeOut_in (w : World) (g m : Nat) (now : Int) (E : List M.Ent) (sl : List Sl) (h : Wm w g m now E sl) (hin : In now (fun x t => (x, t) ∈ E) sl) (id t : Int) (ht : M.tm E id = some t) :
    Calls Try.prog 29 #[.pointer (some ⟨g, 0, none⟩), .int .i64 id] w fun e w' => e = .returned (.tuple #[]) ∧ ∃ sl', Wm w' g m now E sl' ∧ In now (fun x u => (x, u) ∈ E ∧ x ≠ id) sl' ∧ But (WF g m sl) w w' ∧ (∀ j, WF g m sl' j → WF g m sl j ∨ w.heap.size ≤ j) := by
  have hm := (h.ok.tm_iff id t).1 ht
  have hb := h.ok.bnd _ hm
  obtain ⟨s, hs⟩ := h.slotOf hb.2.1
  have hl := hin.len (fun _ _ x => x) hs
  have hf := h.few
  refine (takeOut_any w g m now E sl h id t ⟨hb.2.2.1, hb.2.2.2⟩ ht s hs (by omega) (((hin _ s hs).2 id).2 ⟨t, hm, rfl⟩)).mono ?_
  rintro e w' ⟨rfl, a, c, i, i1, i2, P⟩
  exact ⟨rfl, _, P.wm, hin.take hs (fun u hu => (congrArg Prod.snd (M.pw_inj h.ok.ids hu hm rfl))) a c i1 i2, P.butF hs, fun j hj => P.wf hs hj⟩
set_option maxHeartbeats 4000000 in
theorem set_n (w : World) (g m : Nat) (now : Int) (E : List M.Ent) (sl : List Sl) (h : Wm w g m now E sl) (id at_ : Int) (hi : In64 id) (hr : setR E id at_ ≠ 0) :
    Calls Try.prog 14 #[.pointer (some ⟨g, 0, none⟩), .int .i64 id, .int .i64 at_] w fun e w' => e = .returned (.int .i64 (setR E id at_)) ∧ w' = w := by
  have c0 := h.blk.cell 0 _ (wc_0 ..)
  have c2 := h.blk.cell 2 _ (wc_2 ..)
  have K := isMade_at g true w c0
  have KR := rightTime_any at_ w
  have L := h.map.look2 hi
  have LL := h.map.len 3
  unfold setR at hr ⊢
  clear h
  by_cases h1 : rtB at_ = false
  · rw [if_pos h1]
    rw [h1] at KR
    clear hr
    go_enter Try.func14, Try.ntmps14
    go_wp2_with fail
    refine Calls.mono K ?_
    rintro e w' ⟨rfl, rfl⟩
    go_wp2_with fail
    refine Calls.mono KR ?_
    rintro e w' ⟨rfl, rfl⟩
    go_wp2
    go_ret
    exact ⟨rfl, rfl⟩
  · rw [if_neg h1] at hr ⊢
    have h1' : rtB at_ = true := by simpa using h1
    rw [h1'] at KR
    by_cases h2 : M.tm E id = none ∧ 1024 ≤ E.length
    · rw [if_pos h2]
      rw [h2.1] at L
      simp only [Option.isSome_none, Option.getD_none] at L
      obtain ⟨_, h3⟩ := h2
      have h4 : (1024 : Int) ≤ ↑E.length := by omega
      clear hr h1
      go_enter Try.func14, Try.ntmps14
      go_wp2_with fail
      refine Calls.mono K ?_
      rintro e w' ⟨rfl, rfl⟩
      go_wp2_with fail
      refine Calls.mono KR ?_
      rintro e w' ⟨rfl, rfl⟩
      go_wp2
      go_ret
      exact ⟨rfl, rfl⟩
    · rw [if_neg h2] at hr
      exact absurd rfl hr
end Go.Proofs.Ytfcpjenlckkloaa
