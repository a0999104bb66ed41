/- Set, Tick, New of the document's wheel. -/
import Derived.Test.YtfcpjenlckkloaaWrD
import Derived.Test.YtfcpjenlckkloaaWhU
namespace Go.Proofs.Ytfcpjenlckkloaa
open Go.RowKit
set_option linter.unusedVariables false
set_option linter.unusedSimpArgs false

theorem rset_any (w : World) (gr : Nat) (G : Nat → Prop) (clock : Int) (E : List M.Ent) (h : Rf w gr G clock E) (hE : M.Ok E) (hl : E.length ≤ 1024) (id at_ : Int) :
    Calls Try.prog 23 #[.pointer (some ⟨gr, 0, none⟩), .int .i64 id, .int .i64 at_] w fun e w' => e = .returned (.int .i64 (setR E id at_)) ∧ Rf w' gr (nx G w w') clock (setS E id at_) ∧ But G w w' := by
  obtain ⟨a, c, hm, hg, ha⟩ := h.ex
  by_cases hr : setR E id at_ = 0
  · have hs : setS E id at_ = M.setE E id at_ := by unfold setS; rw [if_pos hr]
    rw [hs, hr]
    refine (rset_y w gr a c clock E hm hE hl id at_ hr).mono ?_
    rintro e w' ⟨rfl, a2, c2, k1, k2, k3⟩
    exact ⟨rfl, Rf.step hg h.lt k1 k2.size (fun k hk => .inr (k3 k hk)), k2.mono (fun n _ e => by rw [e]; exact hg)⟩
  · have hs : setS E id at_ = E := by unfold setS; rw [if_neg hr]
    rw [hs]
    refine (rset_n w gr a c clock E hm hl id at_ hr).mono ?_
    rintro e w' ⟨rfl, rfl⟩
    exact ⟨rfl, Rf.step hg h.lt hm (Nat.le_refl _) (fun k hk => .inl (ha k hk)), But.refl _ _⟩
/-! ### Tick -/
theorem due_split {T L : List M.Ent} {to : Int} (hT : ∀ p ∈ T, p.2 ≤ to) (hL : L = [] ∨ ∃ p L', L = p :: L' ∧ to < p.2) : M.dueE (T ++ L) to = T ∧ M.restE (T ++ L) to = L := by
  induction T with
  | nil =>
    rcases hL with rfl | ⟨p, L', rfl, hp⟩
    · exact ⟨rfl, rfl⟩
    · have hn : ¬ p.2 ≤ to := by omega
      simp [M.dueE, M.restE, List.takeWhile_cons, List.dropWhile_cons, hn]
  | cons q T ih =>
    have hq := hT q (by simp)
    have := ih (fun p hp => hT p (by simp [hp]))
    unfold M.dueE M.restE at this ⊢
    simp only [List.cons_append, List.takeWhile_cons, List.dropWhile_cons, hq, decide_true, if_true]
    exact ⟨by rw [this.1], this.2⟩
def lenV : Value → Nat
  | .slice _ n _ => n
  | _ => 0
theorem Rm.clocked {w : World} {gr : Nat} {a : Option Addr} {c : Nat} {clock : Int} {E : List M.Ent} (h : Rm w gr a c clock E) (to : Int) : Rm (w.setCell ⟨gr, 0, none⟩ (.int .i64 to)) gr a c to E ∧ But (fun k => k = gr) w (w.setCell ⟨gr, 0, none⟩ (.int .i64 to)) := by
  have b : But (fun k => k = gr) w (w.setCell ⟨gr, 0, none⟩ (.int .i64 to)) := (But.refl (fun k => k = gr) w).setCell gr 0 (.inl rfl) _
  exact ⟨⟨h.blk.put 0 _, h.row.but b (fun k hk e => h.ap (e ▸ hk)), h.cap, h.big, h.nil, h.ap, fun k hk => Nat.lt_of_lt_of_le (h.lt k hk) b.size, h.sp⟩, b⟩
theorem Rm.tail {w : World} {gr b off c : Nat} {clock : Int} {p : M.Ent} {L : List M.Ent} (h : Rm w gr (some ⟨b, off, none⟩) c clock (p :: L)) {a' : Option Addr} (ha' : (if c = 1 then (some ⟨b, off, none⟩ : Option Addr) else some ⟨b, off + 2, none⟩) = a') :
    Rm (w.setCell ⟨gr, 1, none⟩ (.slice a' L.length (c - 1))) gr a' (c - 1) clock L ∧ But (fun k => k = gr) w (w.setCell ⟨gr, 1, none⟩ (.slice a' L.length (c - 1))) ∧ ∀ k, AtB a' k → AtB (some ⟨b, off, none⟩) k := by
  have hb : But (fun k => k = gr) w (w.setCell ⟨gr, 1, none⟩ (.slice a' L.length (c - 1))) := (But.refl (fun k => k = gr) w).setCell gr 1 (.inl rfl) _
  have hat : ∀ k, AtB a' k → AtB (some ⟨b, off, none⟩) k := fun k ⟨x, hx, e⟩ => by
    subst ha'
    split at hx
    · exact ⟨x, hx, e⟩
    · cases hx
      exact ⟨_, rfl, e⟩
  have hcap := h.cap
  simp only [List.length_cons] at hcap
  have hbig := h.big
  refine ⟨⟨h.blk.put 1 _, ?_, by omega, by omega, fun x => ?_, fun x => h.ap (hat _ x), fun k hk => Nat.lt_of_lt_of_le (h.lt k (hat k hk)) hb.size, fun x hx => ?_⟩, hb, hat⟩
  · intro hp
    rw [if_neg (by omega)] at ha'
    have := (h.row.but hb (fun k hk e => h.ap (e ▸ hk))).drop 1
    simp only [Nat.one_mul, List.drop_succ_cons, List.drop_zero] at this
    rw [ha'] at this
    exact this hp
  · subst ha'
    split at x <;> cases x
  · subst ha'
    split at hx <;> (cases hx; rfl)
set_option maxHeartbeats 2000000 in
theorem rtick_n (w : World) (gr : Nat) (a : Option Addr) (c : Nat) (clock to : Int) (E : List M.Ent) (h : Rm w gr a c clock E) (ht : to < clock ∨ 4611686018427387904 < to) :
    Calls Try.prog 25 #[.pointer (some ⟨gr, 0, none⟩), .int .i64 to] w fun e w' => e = .returned (.tuple #[.slice none 0 0, .int .i64 25]) ∧ w' = w := by
  have c0 := h.blk.cell 0 _ rfl
  clear h
  rcases Int.lt_or_le to clock with y | y
  · clear ht
    go_enter Try.func25, Try.ntmps25
    go_wp2
    go_ret2
    exact ⟨rfl, rfl⟩
  · have y1 : ¬ to < clock := by omega
    have y2 : 4611686018427387904 < to := by omega
    clear ht
    go_enter Try.func25, Try.ntmps25
    go_wp2
    go_ret2
    exact ⟨rfl, rfl⟩
/-- Where Tick of the document's wheel stands. -/
structure Rt (w wr : World) (gr : Nat) (a0 a : Option Addr) (c : Nat) (to : Int) (E T L : List M.Ent) (O : Sl) : Prop where
  rm : Rm wr gr a c to L
  at_ : ∀ k, AtB a k → AtB a0 k
  eq : T ++ L = E
  due : ∀ p ∈ T, p.2 ≤ to
  own : O.own wr
  ids : O.ids = T.map (·.1)
  new : ∀ k, O.at_ k → w.heap.size ≤ k
  but : But (fun k => k = gr) w wr
set_option maxRecDepth 100000 in
set_option maxHeartbeats 4000000 in
theorem rtick_y (w : World) (gr : Nat) (a : Option Addr) (c : Nat) (clock to : Int) (E : List M.Ent) (h : Rm w gr a c clock E) (hl : E.length ≤ 1024) (h1 : clock ≤ to) (h2 : to ≤ 4611686018427387904) :
    Calls Try.prog 25 #[.pointer (some ⟨gr, 0, none⟩), .int .i64 to] w fun e w' => ∃ (O : Sl) (a2 : Option Addr) (c2 : Nat), e = .returned (.tuple #[O.v, .int .i64 0]) ∧ O.ids = (M.dueE E to).map (·.1) ∧ O.own w' ∧ (∀ k, O.at_ k → w.heap.size ≤ k) ∧ Rm w' gr a2 c2 to (M.restE E to) ∧ (∀ k, AtB a2 k → AtB a k) ∧ But (fun k => k = gr) w w' := by
  have c0 := h.blk.cell 0 _ rfl
  have f0 := h.blk.frozen 0
  obtain ⟨m1, bu1⟩ := h.clocked to
  obtain ⟨W1, hW1⟩ : ∃ W1, w.setCell ⟨gr, 0, none⟩ (.int .i64 to) = W1 := ⟨_, rfl⟩
  rw [hW1] at m1 bu1
  have st : Hid (Rt w W1 gr a a c to E [] E nilSl) := ⟨m1, fun _ x => x, rfl, by simp, nilSl_own _, rfl, fun k hk => absurd hk (nil_at k), bu1⟩
  have hgl := h.blk.lt
  have hlt0 := hidW h.lt
  have y1 : ¬ to < clock := by omega
  have y2 : ¬ 4611686018427387904 < to := by omega
  clear h m1 bu1
  go_enter Try.func25, Try.ntmps25
  go_wp2_with fail
  go_loopw [6] (fun v wr => ∃ (a' : Option Addr) (c' : Nat) (T L : List M.Ent) (O : Sl), v = O.v ∧ Hid (Rt w wr gr a a' c' to E T L O)) (fun v _ => 2000 - lenV v)
  case atStart => exact ⟨a, c, [], E, nilSl, rfl, st⟩
  case round =>
    clear st
    obtain ⟨a1, c1, T, L, O, rfl, rt⟩ := hrel
    have cc := rt.out.rm.blk.cell 1 _ rfl
    have hOl : O.ids.length + L.length ≤ 1024 := by
      have h3 := congrArg List.length rt.out.eq
      have h4 := congrArg List.length rt.out.ids
      simp at h3 h4
      omega
    cases L with
    | nil =>
      have fin : Hid (∃ (a2 : Option Addr) (c2 : Nat), O.ids = (M.dueE E to).map (·.1) ∧ O.own wr ∧ (∀ k, O.at_ k → w.heap.size ≤ k) ∧ Rm wr gr a2 c2 to (M.restE E to) ∧ (∀ k, AtB a2 k → AtB a k) ∧ But (fun k => k = gr) w wr) := by
        obtain ⟨k1, k2⟩ := due_split (L := []) rt.out.due (.inl rfl)
        rw [rt.out.eq] at k1 k2
        exact ⟨a1, c1, by rw [k1]; exact rt.out.ids, rt.out.own, rt.out.new, by rw [k2]; exact rt.out.rm, rt.out.at_, rt.out.but⟩
      clear rt
      go_wp2
      go_ret2
      obtain ⟨a2, c2, f1, f2, f3, f4, f5, f6⟩ := fin.out
      first | exact ⟨O, a2, c2, rfl, f1, f2, f3, f4, f5, f6⟩ | exact ⟨O, rfl, f1, f2, f3, a2, c2, f4, f5, f6⟩ | exact ⟨O, rfl, f1, f2, f3, a2, ⟨c2, f4⟩, f5, f6⟩
    | cons p L =>
      obtain ⟨b, off, rfl, hc⟩ := rt.out.rm.row (by simp)
      obtain ⟨d1, d2⟩ := hc 0 p rfl
      simp only [Nat.zero_mul, Nat.add_zero] at d1 d2
      have hlp : (0 : Int) < (((p :: L).length : Nat) : Int) := by simp <;> omega
      have hcap := rt.out.rm.cap
      have hbig := rt.out.rm.big
      have hlp1 : (1 : Int) ≤ (((p :: L).length : Nat) : Int) := by omega
      by_cases hd : p.2 ≤ to
      · obtain ⟨O2, W2, r1, r2, r3, r4, r5⟩ := run_app_one wr 39 O p.1 rt.out.own (by omega)
        have nO : ∀ k, O.at_ k → k ≠ gr := fun k hk e => by have := rt.out.new k hk; omega
        have m2 : Rm W2 gr (some ⟨b, off, none⟩) c1 to (p :: L) := rt.out.rm.but r4 (fun x => nO _ x rfl) (fun k hk x => by
          have := hlt0.out k (rt.out.at_ k hk)
          have := rt.out.new k x
          omega)
        obtain ⟨a', ha'⟩ : ∃ a', (if c1 = 1 then (some ⟨b, off, none⟩ : Option Addr) else some ⟨b, off + 2, none⟩) = a' := ⟨_, rfl⟩
        obtain ⟨m3, bu3, at3⟩ := m2.tail ha'
        have cc2 := m2.blk.cell 1 _ rfl
        have ff2 := m2.blk.frozen 1
        have rt2 : Hid (Rt w (W2.setCell ⟨gr, 1, none⟩ (.slice a' L.length (c1 - 1))) gr a a' (c1 - 1) to E (T ++ [p]) L O2) := by
          refine ⟨m3, fun k hk => rt.out.at_ k (at3 k hk), by rw [List.append_assoc]; exact rt.out.eq, fun q hq => ?_, r3.but bu3 (fun k hk e => ?_), by rw [r2, rt.out.ids]; simp, fun k hk => ?_, ?_⟩
          · rcases List.mem_append.1 hq with x | x
            · exact rt.out.due q x
            · simp at x; rw [x]; exact hd
          · rcases r5 k hk with x | x
            · exact nO k x e
            · have := rt.out.but.size; omega
          · rcases r5 k hk with x | x
            · exact rt.out.new k x
            · have := rt.out.but.size; omega
          · exact (rt.out.but.trans r4 (fun k hk x => by have := rt.out.new k x; omega)).trans bu3 (fun _ _ x => x)
        have hl2 : O2.ids.length = O.ids.length + 1 := by rw [r2]; simp
        have hO2 : Hid (2000 - lenV O2.v < 2000 - lenV O.v) := by
          show 2000 - O2.ids.length < 2000 - O.ids.length
          rw [hl2]
          simp only [List.length_cons] at hOl
          omega
        simp only [List.length_cons] at cc cc2 hcap hlp hlp1
        clear rt m2 m3 bu3 at3 r2 r3 r4 r5 hc nO hl2
        go_wp2_with (at_builtin; refine wpList_run_app _ rfl _ _ rfl _ _ _ _ rfl rfl r1 ?_)
        first | exact ⟨⟨a', c1 - 1, T ++ [p], L, O2, rfl, rt2⟩, hO2.out⟩ | trace_state
      · have hd' : ¬ p.2 ≤ to := hd
        have fin : Hid (∃ (a2 : Option Addr) (c2 : Nat), O.ids = (M.dueE E to).map (·.1) ∧ O.own wr ∧ (∀ k, O.at_ k → w.heap.size ≤ k) ∧ Rm wr gr a2 c2 to (M.restE E to) ∧ (∀ k, AtB a2 k → AtB a k) ∧ But (fun k => k = gr) w wr) := by
          obtain ⟨k1, k2⟩ := due_split (L := p :: L) rt.out.due (.inr ⟨p, L, rfl, by omega⟩)
          rw [rt.out.eq] at k1 k2
          exact ⟨_, c1, by rw [k1]; exact rt.out.ids, rt.out.own, rt.out.new, by rw [k2]; exact rt.out.rm, rt.out.at_, rt.out.but⟩
        simp only [List.length_cons] at cc hcap hlp hlp1
        clear rt hc
        go_wp2
        go_ret2
        obtain ⟨a2, c2, f1, f2, f3, f4, f5, f6⟩ := fin.out
        first | exact ⟨O, a2, c2, rfl, f1, f2, f3, f4, f5, f6⟩ | exact ⟨O, rfl, f1, f2, f3, a2, c2, f4, f5, f6⟩ | exact ⟨O, rfl, f1, f2, f3, a2, ⟨c2, f4⟩, f5, f6⟩
end Go.Proofs.Ytfcpjenlckkloaa
