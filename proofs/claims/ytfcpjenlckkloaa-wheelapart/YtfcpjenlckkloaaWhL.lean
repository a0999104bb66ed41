/- turn. -/
import Derived.Test.YtfcpjenlckkloaaWhK
namespace Go.Proofs.Ytfcpjenlckkloaa
open Go.RowKit
set_option linter.unusedVariables false
set_option linter.unusedSimpArgs false

/-- What turn has come to behind j of the numbers that were passed. -/
structure Trn (w wr : World) (g m : Nat) (now to : Int) (E : List M.Ent) (sl sj : List Sl) (O D : Sl) (j : Nat) : Prop where
  wm : Wm wr g m to E sj
  inn : In to (fun x t => (x, t) ∈ E ∧ (M.slot now to < M.slot now t ∨ (x ∈ O.ids.take j ∧ to < t))) sj
  own : O.own wr
  due : D.own wr
  ids : D.ids = (O.ids.take j).filter (fun x => decide ((M.tm E x).getD 0 ≤ to))
  oF : ∀ k, O.at_ k → ¬ WF g m sj k
  dF : ∀ k, D.at_ k → ¬ WF g m sj k
  od : ∀ k, D.at_ k → ¬ O.at_ k
  new : ∀ k, D.at_ k → w.heap.size ≤ k
  wf : ∀ k, WF g m sj k → WF g m sl k ∨ w.heap.size ≤ k
  but : But (WF g m sl) w wr
theorem late {now to t : Int} (hn : 0 ≤ now) (hn' : now ≤ 4611686018427387904) (ht : to ≤ 4611686018427387904) (h : M.slot now to < M.slot now t) : to < t := by
  rcases Int.lt_or_le to t with x | x
  · exact x
  · have := M.slot_mono hn hn' x ht
    omega
/-- Behind the slots that were emptied, and the clock that was set. -/
theorem Trn.start {w w1 : World} {g m : Nat} {now to : Int} {E : List M.Ent} {sl : List Sl} {O : Sl} (h : Wm w g m now E sl) (hin : In now (fun x t => (x, t) ∈ E) sl) (hnt : now ≤ to) (ht : to ≤ 4611686018427387904) (e : Emp w w1 g m now E sl (M.slot now to + 1) O) :
    Trn w (w1.setCell ⟨g, 1, none⟩ (.int .i64 to)) g m now to E sl (nilTo sl (M.slot now to + 1)) O nilSl 0 := by
  have hn := h.now0
  have hn' := h.now1
  obtain ⟨k1, k2⟩ := e.wm.ticked (to := to) (by omega) ht
  have hgl := h.blk.lt
  have hsl := M.slot_lt hn hn' ht
  have hwf : ∀ k, WF g m (nilTo sl (M.slot now to + 1)) k → WF g m sl k := fun k hk => by
    rcases hk with x | x | ⟨i, s, h1, h2⟩
    · exact .inl x
    · exact .inr (.inl x)
    · rcases Nat.lt_or_ge i (M.slot now to + 1) with x | x
      · rw [nilTo_lt x] at h1
        cases h1
        exact absurd h2 (nil_at k)
      · rw [nilTo_ge x] at h1
        exact .inr (.inr ⟨i, s, h1, h2⟩)
  refine ⟨k1, fun k s hs => ?_, ?_, nilSl_own _, by simp [nilSl], fun k hk hF => ?_, fun k hk => absurd hk (nil_at k), fun k hk => absurd hk (nil_at k), fun k hk => absurd hk (nil_at k), fun k hk => .inl (hwf k hk), ?_⟩
  · rcases Nat.lt_or_ge k (M.slot now to + 1) with x | x
    · rw [nilTo_lt x] at hs
      cases hs
      refine ⟨List.nodup_nil, fun id => ⟨fun hx => by simp [nilSl] at hx, ?_⟩⟩
      rintro ⟨t, ⟨h1, h2 | h2⟩, h3⟩
      · have hb := h.ok.bnd _ h1
        rw [M.slot_keep hn hnt (Int.le_of_lt (late hn hn' ht h2)) hb.2.1 h2] at h3
        omega
      · simp at h2
    · rw [nilTo_ge x] at hs
      obtain ⟨h1, h2⟩ := hin k s hs
      refine ⟨h1, fun id => ?_⟩
      rw [h2 id]
      constructor
      · rintro ⟨t, h3, h4⟩
        have hb := h.ok.bnd _ h3
        have h5 : M.slot now to < M.slot now t := by omega
        exact ⟨t, ⟨h3, .inl h5⟩, by rw [M.slot_keep hn hnt (Int.le_of_lt (late hn hn' ht h5)) hb.2.1 h5]; exact h4⟩
      · rintro ⟨t, ⟨h3, h5 | h5⟩, h4⟩
        · have hb := h.ok.bnd _ h3
          rw [M.slot_keep hn hnt (Int.le_of_lt (late hn hn' ht h5)) hb.2.1 h5] at h4
          exact ⟨t, h3, h4⟩
        · simp at h5
  · exact e.own.but k2 (fun k hk x => by
      have := e.new k hk
      omega)
  · have := e.new k hk
    have := h.lt (hwf k hF)
    omega
  · exact (e.but.mono (fun n _ x => .inl x)).trans k2 (fun n _ x => .inl x)
/-- A number that is due. -/
theorem Trn.isDue {w wr W' : World} {g m : Nat} {now to : Int} {E : List M.Ent} {sl sj : List Sl} {O D D' : Sl} {j : Nat} {x t : Int} (h : Trn w wr g m now to E sl sj O D j) (hx : O.ids[j]? = some x) (ht : M.tm E x = some t) (hle : t ≤ to)
    (hi : D'.ids = D.ids ++ [x]) (ho : D'.own W') (hb : But (fun k => D.at_ k) wr W') (hat : ∀ k, D'.at_ k → D.at_ k ∨ wr.heap.size ≤ k) : Trn w W' g m now to E sl sj O D' (j + 1) := by
  have htk : O.ids.take (j + 1) = O.ids.take j ++ [x] := by rw [List.take_add_one, hx]; rfl
  refine ⟨h.wm.but hb (fun k hk hk' => h.dF k hk' hk), h.inn.congr (fun y u => ?_), h.own.but hb (fun k hk hk' => h.od k hk' hk), ho, ?_, h.oF, fun k hk hF => ?_, fun k hk hk' => ?_, fun k hk => ?_, h.wf, ?_⟩
  · rw [htk]
    constructor
    · rintro ⟨h1, h2 | h2⟩
      · exact ⟨h1, .inl h2⟩
      · exact ⟨h1, .inr ⟨List.mem_append_left _ h2.1, h2.2⟩⟩
    · rintro ⟨h1, h2 | ⟨h2, h3⟩⟩
      · exact ⟨h1, .inl h2⟩
      · rcases List.mem_append.1 h2 with h2 | h2
        · exact ⟨h1, .inr ⟨h2, h3⟩⟩
        · simp at h2
          subst h2
          have := (h.wm.ok.tm_iff y u).2 h1
          rw [ht] at this
          cases this
          omega
  · rw [hi, htk, List.filter_append, h.ids]
    congr 1
    rw [List.filter_cons_of_pos (by rw [ht]; simpa using hle)]
    rfl
  · rcases hat k hk with y | y
    · exact h.dF k y hF
    · have := h.wm.lt hF
      omega
  · rcases hat k hk with y | y
    · exact h.od k y hk'
    · have := h.own.lt hk'
      omega
  · rcases hat k hk with y | y
    · exact h.new k y
    · exact Nat.le_trans h.but.size y
  · exact h.but.trans hb (fun n hn hk => by have := h.new n hk; omega)
/-- A number that is not due yet. -/
theorem Trn.isLate {w wr W' : World} {g m : Nat} {now to : Int} {E : List M.Ent} {sl sj sj' : List Sl} {O D : Sl} {j : Nat} {x t : Int} (h : Trn w wr g m now to E sl sj O D j) (hx : O.ids[j]? = some x) (ht : M.tm E x = some t) (hle : to < t)
    (hw : Wm W' g m to E sj') (hin : In to (fun y u => ((y, u) ∈ E ∧ (M.slot now to < M.slot now u ∨ (y ∈ O.ids.take j ∧ to < u))) ∨ (y = x ∧ u = t)) sj') (hb : But (WF g m sj) wr W') (hat : ∀ k, WF g m sj' k → WF g m sj k ∨ wr.heap.size ≤ k) : Trn w W' g m now to E sl sj' O D (j + 1) := by
  have htk : O.ids.take (j + 1) = O.ids.take j ++ [x] := by rw [List.take_add_one, hx]; rfl
  have hm := (h.wm.ok.tm_iff x t).1 ht
  refine ⟨hw, hin.congr (fun y u => ?_), h.own.but hb (fun k hk hk' => h.oF k hk hk'), h.due.but hb (fun k hk hk' => h.dF k hk hk'), ?_, fun k hk hF => ?_, fun k hk hF => ?_, h.od, h.new, fun k hk => ?_, ?_⟩
  · rw [htk]
    constructor
    · rintro (⟨h1, h2 | h2⟩ | ⟨rfl, rfl⟩)
      · exact ⟨h1, .inl h2⟩
      · exact ⟨h1, .inr ⟨List.mem_append_left _ h2.1, h2.2⟩⟩
      · exact ⟨hm, .inr ⟨by simp, hle⟩⟩
    · rintro ⟨h1, h2 | ⟨h2, h3⟩⟩
      · exact .inl ⟨h1, .inl h2⟩
      · rcases List.mem_append.1 h2 with h2 | h2
        · exact .inl ⟨h1, .inr ⟨h2, h3⟩⟩
        · simp at h2
          subst h2
          have := (h.wm.ok.tm_iff y u).2 h1
          rw [ht] at this
          cases this
          exact .inr ⟨rfl, rfl⟩
  · rw [htk, List.filter_append, h.ids, List.filter_cons_of_neg (by rw [ht]; simpa using hle)]
    simp
  · rcases hat k hF with y | y
    · exact h.oF k hk y
    · have := h.own.lt hk
      omega
  · rcases hat k hF with y | y
    · exact h.dF k hk y
    · have := h.due.lt hk
      omega
  · rcases hat k hk with y | y
    · exact h.wf k y
    · exact .inr (Nat.le_trans h.but.size y)
  · exact h.but.trans hb (fun n hn hk => by
      rcases h.wf n hk with y | y
      · exact y
      · omega)
/-- What turn leaves. -/
structure Turned (w w' : World) (g m : Nat) (to : Int) (E : List M.Ent) (sl sl' : List Sl) (D : Sl) : Prop where
  wm : Wm w' g m to E sl'
  inn : In to (fun x t => (x, t) ∈ M.restE E to) sl'
  due : D.own w'
  nod : D.ids.Nodup
  mem : ∀ x, x ∈ D.ids ↔ ∃ t, (x, t) ∈ E ∧ t ≤ to
  dF : ∀ k, D.at_ k → ¬ WF g m sl' k
  new : ∀ k, D.at_ k → w.heap.size ≤ k
  wf : ∀ k, WF g m sl' k → WF g m sl k ∨ w.heap.size ≤ k
  but : But (WF g m sl) w w'
theorem Trn.done {w wr : World} {g m : Nat} {now to : Int} {E : List M.Ent} {sl sj : List Sl} {O D : Sl} {j : Nat} (h : Trn w wr g m now to E sl sj O D j) (h0 : Wm w g m now E sl) (hin : In now (fun x t => (x, t) ∈ E) sl) (hO : O.ids = cat sl (M.slot now to + 1)) (ht : to ≤ 4611686018427387904) (hj : O.ids.length ≤ j) : Turned w wr g m to E sl sj D := by
  have htk : O.ids.take j = O.ids := List.take_of_length_le hj
  have hmem : ∀ x t, (x, t) ∈ E → (x ∈ O.ids ↔ M.slot now t ≤ M.slot now to) := fun x t hx => by
    rw [hO, mem_cat]
    have hb := h0.ok.bnd _ hx
    obtain ⟨s, hs⟩ := h0.slotOf hb.2.1
    constructor
    · rintro ⟨k, s', h1, h2, h3⟩
      obtain ⟨u, h4, h5⟩ := ((hin k s' h2).2 x).1 h3
      have := M.pw_inj h0.ok.ids h4 hx rfl
      cases this
      omega
    · intro hk
      exact ⟨M.slot now t, s, by omega, hs, ((hin _ s hs).2 x).2 ⟨t, hx, rfl⟩⟩
  refine ⟨h.wm, h.inn.congr (fun x t => ?_), h.due, ?_, fun x => ?_, h.dF, h.new, h.wf, h.but⟩
  · rw [h0.ok.mem_rest to (x, t), htk]
    constructor
    · rintro ⟨h1, h2 | h2⟩
      · exact ⟨h1, late h0.now0 h0.now1 ht h2⟩
      · exact ⟨h1, h2.2⟩
    · rintro ⟨h1, h2⟩
      refine ⟨h1, ?_⟩
      rcases Nat.lt_or_ge (M.slot now to) (M.slot now t) with y | y
      · exact .inl y
      · exact .inr ⟨(hmem x t h1).2 y, h2⟩
  · rw [h.ids, htk, hO]
    exact (nodup_cat hin (fun x t u h1 h2 => congrArg Prod.snd (M.pw_inj h0.ok.ids h1 h2 rfl)) _).filter _
  · rw [h.ids, htk, List.mem_filter]
    constructor
    · rintro ⟨h1, h2⟩
      rw [hO] at h1
      obtain ⟨k, s', h3, h4, h5⟩ := mem_cat.1 h1
      obtain ⟨u, h6, h7⟩ := ((hin k s' h4).2 x).1 h5
      rw [(h0.ok.tm_iff x u).2 h6] at h2
      exact ⟨u, h6, by simpa using h2⟩
    · rintro ⟨t, h1, h2⟩
      refine ⟨(hmem x t h1).2 (M.slot_mono h0.now0 h0.now1 h2 ht), ?_⟩
      rw [(h0.ok.tm_iff x t).2 h1]
      simpa using h2
end Go.Proofs.Ytfcpjenlckkloaa
