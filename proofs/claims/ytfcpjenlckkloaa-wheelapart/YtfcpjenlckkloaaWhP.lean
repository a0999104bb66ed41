/- Tick. -/
import Derived.Test.YtfcpjenlckkloaaWhO
namespace Go.Proofs.Ytfcpjenlckkloaa
open Go.RowKit
set_option linter.unusedVariables false
set_option linter.unusedSimpArgs false

set_option maxHeartbeats 2000000 in
theorem tick_n (w : World) (g m : Nat) (now to : Int) (E : List M.Ent) (sl : List Sl) (h : Wm w g m now E sl) (ht : to < now ∨ 4611686018427387904 < to) :
    Calls Try.prog 16 #[.pointer (some ⟨g, 0, none⟩), .int .i64 to] w fun e w' => e = .returned (.tuple #[.slice none 0 0, .int .i64 25]) ∧ Below w.heap.size w w' := by
  have c0 := h.blk.cell 0 _ (wc_0 ..)
  have c1 := h.blk.cell 1 _ (wc_1 ..)
  have hgl := h.blk.lt
  obtain ⟨W1, hW1⟩ : ∃ W, w.alloc (.cells #[.pointer (some ⟨g, 0, none⟩)] 23) = W := ⟨_, rfl⟩
  have kb : Below w.heap.size w W1 := hW1 ▸ (Below.refl _ _).alloc (Nat.le_refl _) _
  have bx := (hW1 ▸ blk_new w #[.pointer (some ⟨g, 0, none⟩)] 23 : Blk W1 w.heap.size 23 #[.pointer (some ⟨g, 0, none⟩)]).cell 0 _ rfl
  have d0 := (kb.cell (p := ⟨g, 0, none⟩) hgl).trans c0
  have d1 := (kb.cell (p := ⟨g, 1, none⟩) hgl).trans c1
  have K := isMade_at g true W1 d0
  clear h c0 c1
  rcases Int.lt_or_le to now with h1 | h1
  · clear ht
    go_enter Try.func16, Try.ntmps16
    go_wp2_with fail
    refine Calls.mono K ?_
    rintro e w' ⟨rfl, rfl⟩
    go_wp2
    go_ret2
    exact ⟨rfl, kb⟩
  · have h2 : 4611686018427387904 < to := by omega
    have h3 : ¬ to < now := by omega
    clear ht
    go_enter Try.func16, Try.ntmps16
    go_wp2_with fail
    refine Calls.mono K ?_
    rintro e w' ⟨rfl, rfl⟩
    go_wp2
    go_ret2
    exact ⟨rfl, kb⟩
theorem drop_head {p : M.Ent} {L : List M.Ent} (h : M.Ok (p :: L)) : M.dropE (p :: L) p.1 = L := by
  unfold M.dropE
  rw [List.filter_cons_of_neg (by simp)]
  refine List.filter_eq_self.2 (fun q hq => ?_)
  have := (List.pairwise_cons.1 h.ids).1 q hq
  simpa using fun e => this e.symm
/-- What Tick leaves. -/
structure Ticked (w w' : World) (g m : Nat) (to : Int) (E' : List M.Ent) (sl sl' : List Sl) (D : Sl) : Prop where
  wm : Wm w' g m to E' sl'
  inn : In to (fun x t => (x, t) ∈ E') sl'
  due : D.own w'
  dF : ∀ k, D.at_ k → ¬ WF g m sl' k
  new : ∀ k, D.at_ k → w.heap.size ≤ k
  wf : ∀ k, WF g m sl' k → WF g m sl k ∨ w.heap.size ≤ k
  but : But (WF g m sl) w w'
/-- Behind j of the numbers that were told, and dropped. -/
structure Del (w wr : World) (g m bx : Nat) (to : Int) (E : List M.Ent) (sl sl' : List Sl) (D : Sl) (j : Nat) : Prop where
  wm : Wm wr g m to ((M.dueE E to).drop j ++ M.restE E to) sl'
  inn : In to (fun x t => (x, t) ∈ M.restE E to) sl'
  due : D.own wr
  dF : ∀ k, D.at_ k → ¬ WF g m sl' k
  new : ∀ k, D.at_ k → w.heap.size ≤ k
  wf : ∀ k, WF g m sl' k → WF g m sl k ∨ w.heap.size ≤ k
  but : But (WF g m sl) w wr
  box : wr.cell? ⟨bx, 0, none⟩ = some (.pointer (some ⟨g, 0, none⟩))
  nb : bx ≠ m
theorem Del.step {w wr : World} {g m bx : Nat} {to : Int} {E : List M.Ent} {sl sl' : List Sl} {D : Sl} {j : Nat} (h : Del w wr g m bx to E sl sl' D j) {p : M.Ent} (hp : (M.dueE E to)[j]? = some p) :
    ∃ W', (Builtin.delete_ #[53, 3] 0 #[.map (some m), .int .i64 p.1]).run Try.prog wr = .ok (.tuple #[]) W' ∧ Del w W' g m bx to E sl sl' D (j + 1) := by
  have hj : j < (M.dueE E to).length := (List.getElem?_eq_some_iff.1 hp).1
  have hd : (M.dueE E to).drop j = p :: (M.dueE E to).drop (j + 1) := by
    rw [List.drop_eq_getElem_cons hj, (List.getElem?_eq_some_iff.1 hp).2]
  have hw := h.wm
  rw [hd, List.cons_append] at hw
  have hb := hw.ok.bnd p (by simp)
  obtain ⟨W', r1, r2, r3⟩ := hw.map.drop hw.ok (id := p.1) ⟨hb.2.2.1, hb.2.2.2⟩ 0
  rw [drop_head hw.ok] at r2
  have ok2 : M.Ok ((M.dueE E to).drop (j + 1) ++ M.restE E to) := hw.ok.sub (List.sublist_cons_self _ _)
  have hf := hw.few
  have w2 := hw.mapped r2 r3 ok2 (by simp at hf ⊢; omega)
  exact ⟨W', r1, w2, h.inn, h.due.but r3 (fun k hk e => h.dF k hk (.inr (.inl e))), h.dF, h.new, h.wf, h.but.trans r3 (fun n hn e => by
    rcases h.wf n (.inr (.inl e)) with x | x
    · exact x
    · omega), r3.cell h.nb h.box, h.nb⟩
set_option maxRecDepth 100000 in
set_option maxHeartbeats 4000000 in
theorem tick_y (w : World) (g m : Nat) (now to : Int) (E : List M.Ent) (sl : List Sl) (h : Wm w g m now E sl) (hin : In now (fun x t => (x, t) ∈ E) sl) (hnt : now ≤ to) (ht : to ≤ 4611686018427387904) :
    Calls Try.prog 16 #[.pointer (some ⟨g, 0, none⟩), .int .i64 to] w fun e w' => ∃ (a : Option Addr) (c : Nat) (sl' : List Sl), e = .returned (.tuple #[Sl.v ⟨a, c, (M.dueE E to).map (·.1)⟩, .int .i64 0]) ∧ Ticked w w' g m to (M.restE E to) sl sl' ⟨a, c, (M.dueE E to).map (·.1)⟩ := by
  have c0 := h.blk.cell 0 _ (wc_0 ..)
  have c1 := h.blk.cell 1 _ (wc_1 ..)
  have hgl := h.blk.lt
  obtain ⟨W1, hW1⟩ : ∃ W, w.alloc (.cells #[.pointer (some ⟨g, 0, none⟩)] 23) = W := ⟨_, rfl⟩
  have kb : Below w.heap.size w W1 := hW1 ▸ (Below.refl _ _).alloc (Nat.le_refl _) _
  have bB : Blk W1 w.heap.size 23 #[.pointer (some ⟨g, 0, none⟩)] := hW1 ▸ blk_new w #[.pointer (some ⟨g, 0, none⟩)] 23
  have bx := bB.cell 0 _ rfl
  have d0 := (kb.cell (p := ⟨g, 0, none⟩) hgl).trans c0
  have d1 := (kb.cell (p := ⟨g, 1, none⟩) hgl).trans c1
  have K := isMade_at g true W1 d0
  have h1 : Wm W1 g m now E sl := hW1 ▸ h.alloc _
  have nF : ∀ k, WF g m sl k → k < w.heap.size := fun k hk => h.lt hk
  have s1 : W1.heap.size = w.heap.size + 1 := by rw [← hW1]; simp
  have KT : Hid (Calls Try.prog 31 #[.pointer (some ⟨g, 0, none⟩), .int .i64 to] W1 fun e w' => ∃ (Da : Option Addr) (Dc : Nat) (Dl : List Int), e = .returned (.slice Da Dl.length Dc) ∧ w'.cell? ⟨w.heap.size, 0, none⟩ = some (.pointer (some ⟨g, 0, none⟩)) ∧
      Calls Try.prog 32 #[.slice Da Dl.length Dc, .func (.func 33) #[] #[.pointer (some ⟨w.heap.size, 0, none⟩)]] w' fun e w2 => e = .returned (.tuple #[]) ∧ ∃ sl', Dl.length = (M.dueE E to).length ∧ Hid (Del w w2 g m w.heap.size to E sl sl' ⟨Da, Dc, (M.dueE E to).map (·.1)⟩ 0)) := by
    refine (turn_any W1 g m now to E sl h1 hin hnt ht).mono ?_
    rintro e w' ⟨D, sl', rfl, T⟩
    have nb : ¬ WF g m sl w.heap.size := fun x => Nat.lt_irrefl _ (nF _ x)
    have nb' : ¬ WF g m sl' w.heap.size := fun x => by
      rcases T.wf _ x with y | y
      · exact nb y
      · omega
    have nd : ¬ D.at_ w.heap.size := fun x => by
      have := T.new _ x
      omega
    have q0 := T.but.cell nb bx
    refine ⟨D.a, D.c, D.ids, rfl, q0, ?_⟩
    have hl : D.ids.length ≤ 1024 := by
      have := nodup_len (k := E.map (·.1)) T.nod (fun x hx => by
        obtain ⟨t, h4, _⟩ := (T.mem x).1 hx
        exact List.mem_map.2 ⟨_, h4, rfl⟩)
      have hf := h.few
      simp at this
      omega
    refine (sort_due w' g m w.heap.size to E D h.ok T.due T.nod T.mem hl q0 (T.wm.blk.cell 2 _ (wc_2 ..)) T.wm.map nd (fun x => T.dF _ x (.inl rfl)) (fun x => T.dF _ x (.inr (.inl rfl)))).mono ?_
    rintro e w2 ⟨rfl, o2, l2, b2⟩
    refine ⟨rfl, sl', l2.symm, ?_⟩
    have w3 := T.wm.but b2 (fun k hk hk' => T.dF k hk' hk)
    refine ⟨by simpa [M.due_rest] using w3, T.inn, o2, fun k hk => T.dF k hk, fun k hk => ?_, fun k hk => ?_, ?_, b2.cell nd q0, ?_⟩
    · have := T.new k hk
      omega
    · rcases T.wf k hk with y | y
      · exact .inl y
      · exact .inr (by omega)
    · have b1 : But (WF g m sl) w W1 := But.of_below kb _
      refine (b1.trans T.but (fun _ _ x => x)).trans b2 (fun n hn hk => ?_)
      have := T.new n hk
      omega
    · intro e
      exact nb (.inr (.inl e))
  have HR := hidW (h.ok)
  clear h h1 hin c0 c1 bB nF
  go_enter Try.func16, Try.ntmps16
  go_wp2_with fail
  refine Calls.mono K ?_
  rintro e W' ⟨rfl, hW'⟩
  rw [hW']
  clear hW' W' K
  go_wp2_with fail
  refine Calls.mono KT.out ?_
  rintro e W2 ⟨Da, Dc, Dl, rfl, q0, KS⟩
  have KS := hidW KS
  clear KT bx d0 d1
  go_wp2_with fail
  refine Calls.mono KS.out ?_
  rintro e W3 ⟨rfl, sl', hll, DL⟩
  clear KS q0
  have fin : Hid (∀ wr j, (M.dueE E to).length ≤ j → Hid (Del w wr g m w.heap.size to E sl sl' ⟨Da, Dc, (M.dueE E to).map (·.1)⟩ j) → Ticked w wr g m to (M.restE E to) sl sl' ⟨Da, Dc, (M.dueE E to).map (·.1)⟩) := fun wr j hj hd => by
    have d := hd.out
    have w1 := d.wm
    rw [List.drop_of_length_le hj, List.nil_append] at w1
    exact ⟨w1, d.inn, d.due, d.dF, d.new, d.wf, d.but⟩
  have stp : Hid (∀ wr j, Hid (Del w wr g m w.heap.size to E sl sl' ⟨Da, Dc, (M.dueE E to).map (·.1)⟩ j) → j < (M.dueE E to).length → ∃ (x : Int) (gd : Nat) (W' : World), Da = some ⟨gd, 0, none⟩ ∧ wr.cell? ⟨gd, j, none⟩ = some (.int .i64 x) ∧ wr.cell? ⟨w.heap.size, 0, none⟩ = some (.pointer (some ⟨g, 0, none⟩)) ∧ wr.cell? ⟨g, 2, none⟩ = some (.map (some m)) ∧
      (Builtin.delete_ #[53, 3] 0 #[.map (some m), .int .i64 x]).run Try.prog wr = .ok (.tuple #[]) W' ∧ Hid (Del w W' g m w.heap.size to E sl sl' ⟨Da, Dc, (M.dueE E to).map (·.1)⟩ (j + 1))) := fun wr j hd hj => by
    have d := hd.out
    obtain ⟨p, hp⟩ : ∃ p, (M.dueE E to)[j]? = some p := ⟨_, List.getElem?_eq_getElem hj⟩
    obtain ⟨W', r1, r2⟩ := d.step hp
    obtain ⟨gd, ga, gc⟩ := own_cell (j := j) (x := p.1) d.due (by show ((M.dueE E to).map (·.1))[j]? = _; rw [List.getElem?_map, hp]; rfl)
    exact ⟨p.1, gd, W', ga, gc, d.box, d.wm.blk.cell 2 _ (wc_2 ..), r1, r2⟩
  have hv : Hid (∀ c', Sl.v ⟨Da, c', (M.dueE E to).map (·.1)⟩ = .slice Da Dl.length c') := fun c' => by simp [Sl.v, hll]
  rw [← hll] at fin stp
  have hd1 : Dl.length ≤ 1048576 := by
    have := DL.out.wm.few
    simp at this
    omega
  clear hll
  generalize Dl.length = n at *
  go_wp2_with fail
  obtain ⟨gd, ga⟩ | hn0 : (∃ gd, Da = some ⟨gd, 0, none⟩) ∨ n = 0 := by
    rcases Nat.eq_zero_or_pos n with x | x
    · exact .inr x
    · obtain ⟨_, gd, _, ga, _⟩ := stp.out _ 0 DL x
      exact .inl ⟨gd, ga⟩
  · subst ga
    go_loopw [32] (fun i wr => ∃ (j : Nat), j ≤ n ∧ i = .int .i64 j ∧ Hid (Del w wr g m w.heap.size to E sl sl' ⟨some ⟨gd, 0, none⟩, Dc, (M.dueE E to).map (·.1)⟩ j)) (fun i _ => n - (intOf i).toNat)
    case atStart => exact ⟨0, Nat.zero_le _, rfl, DL⟩
    case round =>
      obtain ⟨j, hj, rfl, dl⟩ := hrel
      by_cases hlt : j < n
      · obtain ⟨x, gd', W', ga, q1, q2, q3, q4, q5⟩ := stp.out wr j dl hlt
        cases ga
        have i1 : (↑j : Int) < ↑n := by omega
        have i0 : (0 : Int) ≤ ↑j := by omega
        clear dl
        go_wp2
        exact ⟨⟨j + 1, by omega, int_eq (by omega), q5⟩, by simp [intOf] <;> omega⟩
      · have i1 : ¬ (↑j : Int) < ↑n := by omega
        have f := hidW (fin.out wr j (by omega) dl)
        go_wp2
        go_ret2
        first | exact ⟨_, Dc, sl', by rw [hv.out]; rfl, f.out⟩ | exact ⟨_, Dc, by rw [hv.out]; rfl, sl', f.out⟩
  · subst hn0
    go_loopw [32] (fun i wr => i = .int .i64 0 ∧ Hid (Del w wr g m w.heap.size to E sl sl' ⟨Da, Dc, (M.dueE E to).map (·.1)⟩ 0)) (fun i _ => 0)
    case atStart => exact ⟨rfl, DL⟩
    case round =>
      obtain ⟨rfl, dl⟩ := hrel
      have f := hidW (fin.out wr 0 (by omega) dl)
      go_wp2
      go_ret2
      first | exact ⟨_, Dc, sl', by rw [hv.out]; rfl, f.out⟩ | exact ⟨_, Dc, by rw [hv.out]; rfl, sl', f.out⟩
end Go.Proofs.Ytfcpjenlckkloaa
