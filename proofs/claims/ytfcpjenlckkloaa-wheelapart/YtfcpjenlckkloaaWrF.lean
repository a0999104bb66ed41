/- A wheel beside the document's; does, stands. -/
import Derived.Test.YtfcpjenlckkloaaWrE
namespace Go.Proofs.Ytfcpjenlckkloaa
open Go.RowKit
set_option linter.unusedVariables false
set_option linter.unusedSimpArgs false

theorem rtick_any (w : World) (gr : Nat) (G : Nat → Prop) (clock to : Int) (E : List M.Ent) (h : Rf w gr G clock E) (hl : E.length ≤ 1024) :
    Calls Try.prog 25 #[.pointer (some ⟨gr, 0, none⟩), .int .i64 to] w fun e w' => ∃ (a : Option Addr) (c : Nat), e = .returned (.tuple #[.slice a (tickL clock E to).length c, .int .i64 (tickR clock to)]) ∧ Sl.own w' ⟨a, c, tickL clock E to⟩ ∧ Rf w' gr G (tickN clock to) (tickE clock E to) ∧ But G w w' := by
  obtain ⟨a, c, hm, hg, ha⟩ := h.ex
  by_cases hk : tickOk clock to = true
  · have hb : clock ≤ to ∧ to ≤ 4611686018427387904 := by simpa [tickOk] using hk
    unfold tickL tickR tickN tickE
    rw [if_pos hk, if_pos hk, if_pos hk, if_pos hk]
    refine (rtick_y w gr a c clock to E hm hl hb.1 hb.2).mono ?_
    rintro e w' ⟨O, a2, c2, rfl, h1, h2, h3, h4, h5, h6⟩
    obtain ⟨Oa, Oc, Ol⟩ := O
    simp only at h1
    subst h1
    exact ⟨Oa, Oc, rfl, h2, ⟨⟨a2, c2, h4, hg, fun k x => ha k (h5 k x)⟩, fun k x => Nat.lt_of_lt_of_le (h.lt k x) h6.size⟩, h6.mono (fun n _ e => by rw [e]; exact hg)⟩
  · have hb : to < clock ∨ 4611686018427387904 < to := by
      simp [tickOk] at hk
      omega
    unfold tickL tickR tickN tickE
    rw [if_neg hk, if_neg hk, if_neg hk, if_neg hk]
    refine (rtick_n w gr a c clock to E hm hb).mono ?_
    rintro e w' ⟨rfl, rfl⟩
    exact ⟨none, 0, rfl, nilSl_own _, h, But.refl _ _⟩
/-- A wheel, and the document's, with nothing in common. -/
structure Pl (w0 w : World) (g gr : Nat) (F G : Nat → Prop) (n1 : Int) (E1 : List M.Ent) (n2 : Int) (E2 : List M.Ent) : Prop where
  wh : Wn w0 w g F n1 E1
  rf : Rf w gr G n2 E2
  new : ∀ k, G k → w0.heap.size ≤ k
  dj : ∀ k, F k → ¬ G k
theorem Pl.onW {w0 w w' : World} {g gr : Nat} {F G F' : Nat → Prop} {n1 n2 n1' : Int} {E1 E2 E1' : List M.Ent} (h : Pl w0 w g gr F G n1 E1 n2 E2) (hw : Wn w0 w' g F' n1' E1') (hb : But F w w') (hn : ∀ k, F' k → nx F w w' k) : Pl w0 w' g gr F' G n1' E1' n2 E2 :=
  ⟨hw, h.rf.but hb (fun k x y => h.dj k y x), h.new, nx_apart hn h.dj h.rf.lt⟩
theorem Pl.onR {w0 w w' : World} {g gr : Nat} {F G G' : Nat → Prop} {n1 n2 n2' : Int} {E1 E2 E2' : List M.Ent} (h : Pl w0 w g gr F G n1 E1 n2 E2) (hr : Rf w' gr G' n2' E2') (hb : But G w w') (hn : ∀ k, G' k → nx G w w' k) : Pl w0 w' g gr F G' n1 E1 n2' E2' :=
  ⟨h.wh.other hb h.dj (h.wh.bel.trans (hb.to_below h.wh.bel.size (fun k hk x => by have := h.new k x; omega))), hr, fun k hk => by
    rcases hn k hk with x | x
    · exact h.new k x
    · have := h.wh.bel.size; omega, fun k x y => nx_apart hn (fun j p q => h.dj j q p) h.wh.whl.lt k y x⟩
theorem Pl.below {w0 w w' : World} {g gr : Nat} {F G : Nat → Prop} {n1 n2 : Int} {E1 E2 : List M.Ent} (h : Pl w0 w g gr F G n1 E1 n2 E2) (hb : Below w.heap.size w w') : Pl w0 w' g gr F G n1 E1 n2 E2 := ⟨h.wh.below hb, h.rf.below hb, h.new, h.dj⟩
theorem Whl.ok {w : World} {g : Nat} {F : Nat → Prop} {now : Int} {E : List M.Ent} (h : Whl w g F now E) : M.Ok E ∧ E.length ≤ 1024 := by
  obtain ⟨_, _, hb, _⟩ := h.ex
  exact ⟨hb.ok, hb.few⟩
/-- What does leaves. -/
structure Dn (w0 w w' : World) (g gr : Nat) (F G F' G' : Nat → Prop) (now : Int) (E : List M.Ent) : Prop where
  pl : Pl w0 w' g gr F' G' now E now E
  but : But (fun k => F k ∨ G k) w w'
  grow : ∀ k, F' k ∨ G' k → nx (fun k => F k ∨ G k) w w' k
theorem Dn.mk' {w0 w w1 w2 : World} {g gr : Nat} {F G F' G' : Nat → Prop} {now : Int} {E : List M.Ent} (hp : Pl w0 w2 g gr F' G' now E now E) (h0 : Below w.heap.size w w1) {wm : World} (hb1 : But F w1 wm) (hn1 : ∀ k, F' k → nx F w1 wm k) (hb2 : But G wm w2) (hn2 : ∀ k, G' k → nx G wm w2 k) : Dn w0 w w2 g gr F G F' G' now E := by
  have s0 := h0.size
  have s1 := hb1.size
  have s2 := hb2.size
  refine ⟨hp, ?_, fun k hk => ?_⟩
  · exact ((But.of_below h0 _).trans (hb1.mono (F' := fun k => F k ∨ G k) (fun _ _ x => .inl x)) (fun _ _ x => x)).trans (hb2.mono (F' := fun k => F k ∨ G k) (fun _ _ x => .inr x)) (fun _ _ x => x)
  · rcases hk with x | x
    · rcases hn1 k x with y | y
      · exact .inl (.inl y)
      · exact .inr ⟨by omega, by omega⟩
    · rcases hn2 k x with y | y
      · exact .inl (.inr y)
      · exact .inr ⟨by omega, by omega⟩
set_option maxRecDepth 100000 in
set_option maxHeartbeats 4000000 in
theorem does_0 (w0 w : World) (g gr : Nat) (F G : Nat → Prop) (now : Int) (E : List M.Ent) (h : Pl w0 w g gr F G now E now E) (q : Ac) (hk : q.kind % 4 = 0) (hi : In64 q.id) :
    Calls Try.prog 12 #[.pointer (some ⟨g, 0, none⟩), .pointer (some ⟨gr, 0, none⟩), .agg #[.int .i64 q.kind, .int .i64 q.id, .int .i64 q.at_]] w fun e w' => e = .returned (.bool true) ∧ ∃ F' G' now' E', Dn w0 w w' g gr F G F' G' now' E' := by
  obtain ⟨W1, hW1⟩ : ∃ W, w.alloc (.cells #[.int .i64 q.kind, .int .i64 q.id, .int .i64 q.at_] 34) = W := ⟨_, rfl⟩
  have b1 : Below w.heap.size w W1 := hW1 ▸ (Below.refl _ _).alloc (Nat.le_refl _) _
  have bB : Blk W1 w.heap.size 34 #[.int .i64 q.kind, .int .i64 q.id, .int .i64 q.at_] := hW1 ▸ blk_new w _ _
  have p1 := (h.below b1).below (Below.refl W1.heap.size W1).drew
  obtain ⟨oE, fE⟩ := h.wh.whl.ok
  have nF : ¬ F w.heap.size := fun x => Nat.lt_irrefl _ (h.wh.whl.lt _ x)
  have nG : ¬ G w.heap.size := fun x => Nat.lt_irrefl _ (h.rf.lt _ x)
  have bd := bB.drew
  have b1d : Below w.heap.size w W1.drew := b1.trans ((Below.refl W1.heap.size W1).drew.mono b1.size)
  have KS : Hid (Calls Try.prog 14 #[.pointer (some ⟨g, 0, none⟩), .int .i64 q.id, .int .i64 q.at_] W1.drew fun e w' => e = .returned (.int .i64 (setR E q.id q.at_)) ∧ (w'.cell? ⟨w.heap.size, 1, none⟩ = some (.int .i64 q.id) ∧ w'.cell? ⟨w.heap.size, 2, none⟩ = some (.int .i64 q.at_)) ∧
      Hid (Calls Try.prog 23 #[.pointer (some ⟨gr, 0, none⟩), .int .i64 q.id, .int .i64 q.at_] w' fun e w2 => e = .returned (.int .i64 (setR E q.id q.at_)) ∧ (w2.cell? ⟨w.heap.size, 1, none⟩ = some (.int .i64 q.id) ∧ w2.cell? ⟨w.heap.size, 2, none⟩ = some (.int .i64 q.at_)) ∧ Hid (∃ F' G' now' E', Dn w0 w w2 g gr F G F' G' now' E'))) := by
    refine (set_w w0 W1.drew g F now E p1.wh q.id q.at_ hi).mono ?_
    rintro e w2 ⟨F', rfl, n2, bu2, nx2⟩
    have p2 := p1.onW n2 bu2 nx2
    have bb2 := bd.but bu2 nF
    refine ⟨rfl, ⟨bb2.cell 1 _ rfl, bb2.cell 2 _ rfl⟩, ?_⟩
    refine (rset_any w2 gr G now E p2.rf oE fE q.id q.at_).mono ?_
    rintro e w3 ⟨rfl, r3, bu3⟩
    have p3 := p2.onR r3 bu3 (fun _ x => x)
    have bb3 := bb2.but bu3 nG
    exact ⟨rfl, ⟨bb3.cell 1 _ rfl, bb3.cell 2 _ rfl⟩, F', _, now, _, Dn.mk' p3 b1d bu2 nx2 bu3 (fun _ x => x)⟩
  have e0 := bB.cell 0 _ rfl
  have e1 := bB.cell 1 _ rfl
  have e2 := bB.cell 2 _ rfl
  have hx := i64_and3
  generalize setR E q.id q.at_ = R at *
  clear h p1 bB bd nF nG oE fE b1 b1d
  go_enter Try.func12, Try.ntmps12
  go_wp2
  go_region_held3 (fun w'' => w''.cell? ⟨w.heap.size, 1, none⟩ = some (.int .i64 q.id) ∧ w''.cell? ⟨w.heap.size, 2, none⟩ = some (.int .i64 q.at_)) (go_keep) (first
    | (go_at_call 14; refine (KS.out).mono ?_; rintro e W8 ⟨rfl, ⟨q1, q2⟩, KR⟩)
    | (go_at_call 23; refine (KR.out).mono ?_; rintro e W9 ⟨rfl, ⟨q1, q2⟩, fin⟩))
  all_goals go_wp2
  all_goals go_ret
  all_goals exact ⟨rfl, fin.out⟩
set_option maxRecDepth 100000 in
set_option maxHeartbeats 4000000 in
theorem does_1 (w0 w : World) (g gr : Nat) (F G : Nat → Prop) (now : Int) (E : List M.Ent) (h : Pl w0 w g gr F G now E now E) (q : Ac) (hk : q.kind % 4 = 1) (hi : In64 q.id) :
    Calls Try.prog 12 #[.pointer (some ⟨g, 0, none⟩), .pointer (some ⟨gr, 0, none⟩), .agg #[.int .i64 q.kind, .int .i64 q.id, .int .i64 q.at_]] w fun e w' => e = .returned (.bool true) ∧ ∃ F' G' now' E', Dn w0 w w' g gr F G F' G' now' E' := by
  obtain ⟨W1, hW1⟩ : ∃ W, w.alloc (.cells #[.int .i64 q.kind, .int .i64 q.id, .int .i64 q.at_] 34) = W := ⟨_, rfl⟩
  have b1 : Below w.heap.size w W1 := hW1 ▸ (Below.refl _ _).alloc (Nat.le_refl _) _
  have bB : Blk W1 w.heap.size 34 #[.int .i64 q.kind, .int .i64 q.id, .int .i64 q.at_] := hW1 ▸ blk_new w _ _
  have p1 := (h.below b1).below (Below.refl W1.heap.size W1).drew
  obtain ⟨oE, fE⟩ := h.wh.whl.ok
  have nF : ¬ F w.heap.size := fun x => Nat.lt_irrefl _ (h.wh.whl.lt _ x)
  have nG : ¬ G w.heap.size := fun x => Nat.lt_irrefl _ (h.rf.lt _ x)
  have bd := bB.drew
  have b1d : Below w.heap.size w W1.drew := b1.trans ((Below.refl W1.heap.size W1).drew.mono b1.size)
  have KS : Hid (Calls Try.prog 18 #[.pointer (some ⟨g, 0, none⟩), .int .i64 q.id] W1.drew fun e w' => e = .returned (.bool (M.tm E q.id).isSome) ∧ (w'.cell? ⟨w.heap.size, 1, none⟩ = some (.int .i64 q.id) ∧ w'.cell? ⟨w.heap.size, 2, none⟩ = some (.int .i64 q.at_)) ∧
      Hid (Calls Try.prog 24 #[.pointer (some ⟨gr, 0, none⟩), .int .i64 q.id] w' fun e w2 => e = .returned (.bool (M.tm E q.id).isSome) ∧ (w2.cell? ⟨w.heap.size, 1, none⟩ = some (.int .i64 q.id) ∧ w2.cell? ⟨w.heap.size, 2, none⟩ = some (.int .i64 q.at_)) ∧ Hid (∃ F' G' now' E', Dn w0 w w2 g gr F G F' G' now' E'))) := by
    refine (drop_w w0 W1.drew g F now E p1.wh q.id hi).mono ?_
    rintro e w2 ⟨F', rfl, n2, bu2, nx2⟩
    have p2 := p1.onW n2 bu2 nx2
    have bb2 := bd.but bu2 nF
    refine ⟨rfl, ⟨bb2.cell 1 _ rfl, bb2.cell 2 _ rfl⟩, ?_⟩
    refine (rdrop_any w2 gr G now E p2.rf oE fE q.id).mono ?_
    rintro e w3 ⟨rfl, r3, bu3⟩
    have p3 := p2.onR r3 bu3 (fun _ x => x)
    have bb3 := bb2.but bu3 nG
    exact ⟨rfl, ⟨bb3.cell 1 _ rfl, bb3.cell 2 _ rfl⟩, F', _, now, _, Dn.mk' p3 b1d bu2 nx2 bu3 (fun _ x => x)⟩
  have e0 := bB.cell 0 _ rfl
  have e1 := bB.cell 1 _ rfl
  have e2 := bB.cell 2 _ rfl
  have hx := i64_and3
  generalize (M.tm E q.id).isSome = R at *
  clear h p1 bB bd nF nG oE fE b1 b1d
  go_enter Try.func12, Try.ntmps12
  go_wp2
  go_region_held3 (fun w'' => w''.cell? ⟨w.heap.size, 1, none⟩ = some (.int .i64 q.id) ∧ w''.cell? ⟨w.heap.size, 2, none⟩ = some (.int .i64 q.at_)) (go_keep) (first
    | (go_at_call 18; refine (KS.out).mono ?_; rintro e W8 ⟨rfl, ⟨q1, q2⟩, KR⟩)
    | (go_at_call 24; refine (KR.out).mono ?_; rintro e W9 ⟨rfl, ⟨q1, q2⟩, fin⟩))
  all_goals go_wp2
  all_goals go_ret
  all_goals exact ⟨rfl, fin.out⟩
set_option maxRecDepth 100000 in
set_option maxHeartbeats 4000000 in
theorem does_2 (w0 w : World) (g gr : Nat) (F G : Nat → Prop) (now : Int) (E : List M.Ent) (h : Pl w0 w g gr F G now E now E) (q : Ac) (hk : q.kind % 4 = 2) :
    Calls Try.prog 12 #[.pointer (some ⟨g, 0, none⟩), .pointer (some ⟨gr, 0, none⟩), .agg #[.int .i64 q.kind, .int .i64 q.id, .int .i64 q.at_]] w fun e w' => e = .returned (.bool true) ∧ ∃ F' G' now' E', Dn w0 w w' g gr F G F' G' now' E' := by
  obtain ⟨W1, hW1⟩ : ∃ W, w.alloc (.cells #[.int .i64 q.kind, .int .i64 q.id, .int .i64 q.at_] 34) = W := ⟨_, rfl⟩
  have b1 : Below w.heap.size w W1 := hW1 ▸ (Below.refl _ _).alloc (Nat.le_refl _) _
  have bB : Blk W1 w.heap.size 34 #[.int .i64 q.kind, .int .i64 q.id, .int .i64 q.at_] := hW1 ▸ blk_new w _ _
  have p1 := h.below b1
  obtain ⟨oE, fE⟩ := h.wh.whl.ok
  have nF : ¬ F w.heap.size := fun x => Nat.lt_irrefl _ (h.wh.whl.lt _ x)
  have hLl : (tickL now E q.at_).length ≤ 1024 := by
    unfold tickL
    split
    · have := M.due_len E q.at_
      simp
      omega
    · simp
  have KS : Hid (Calls Try.prog 16 #[.pointer (some ⟨g, 0, none⟩), .int .i64 q.at_] W1 fun e w' => ∃ (a : Option Addr) (c : Nat), e = .returned (.tuple #[.slice a (tickL now E q.at_).length c, .int .i64 (tickR now q.at_)]) ∧ w'.cell? ⟨w.heap.size, 2, none⟩ = some (.int .i64 q.at_) ∧
      Hid (Calls Try.prog 25 #[.pointer (some ⟨gr, 0, none⟩), .int .i64 q.at_] w' fun e w2 => ∃ (a' : Option Addr) (c' : Nat), e = .returned (.tuple #[.slice a' (tickL now E q.at_).length c', .int .i64 (tickR now q.at_)]) ∧
        Hid (Calls Try.prog 19 #[.slice a (tickL now E q.at_).length c, .slice a' (tickL now E q.at_).length c'] w2 fun e w3 => e = .returned (.bool true) ∧ ∃ F' G' now' E', Dn w0 w w3 g gr F G F' G' now' E'))) := by
    refine (tick_w w0 W1 g F now q.at_ E p1.wh).mono ?_
    rintro e w2 ⟨a, c, F', rfl, n2, T2⟩
    have p2 := p1.onW n2 T2.but T2.wf
    have bb2 := bB.but T2.but nF
    refine ⟨a, c, rfl, bb2.cell 2 _ rfl, ?_⟩
    refine (rtick_any w2 gr G now q.at_ E p2.rf fE).mono ?_
    rintro e w3 ⟨a', c', rfl, o3, r3, bu3⟩
    have p3 := p2.onR r3 bu3 (fun _ x => .inl x)
    have da : Sl.own w3 ⟨a, c, tickL now E q.at_⟩ := T2.due.but bu3 (fun k hk x => by
      have h1 := T2.new k hk
      have h2 := p1.rf.lt k x
      omega)
    refine ⟨a', c', rfl, ?_⟩
    refine (same_any a a' c c' _ _ w3 (da.row (by show (tickL now E q.at_).length ≤ _; omega)) (o3.row (by show (tickL now E q.at_).length ≤ _; omega))).mono ?_
    rintro e w4 ⟨rfl, n, rfl⟩
    have dn := Dn.mk' p3 b1 T2.but T2.wf bu3 (fun _ x => .inl x)
    have bn : Below w3.heap.size w3 (w3.drewN n) := below_drewN (Below.refl _ _) n
    exact ⟨by simp, F', G, _, _, ⟨dn.pl.below bn, dn.but.below bn, dn.grow⟩⟩
  have e0 := bB.cell 0 _ rfl
  have e2 := bB.cell 2 _ rfl
  have hx := i64_and3
  generalize tickL now E q.at_ = TL at *
  generalize tickR now q.at_ = R at *
  clear h p1 bB nF oE fE b1
  go_enter Try.func12, Try.ntmps12
  go_wp2_with fail
  refine Calls.mono KS.out ?_
  rintro e w2 ⟨a, c, rfl, e2', KR⟩
  clear KS e0 e2
  go_wp2_with fail
  refine Calls.mono KR.out ?_
  rintro e w3 ⟨a', c', rfl, KM⟩
  clear KR e2'
  go_wp2_with fail
  refine Calls.mono KM.out ?_
  rintro e w4 ⟨rfl, fin⟩
  have fin := hidW fin
  clear KM
  go_wp2
  go_ret
  exact ⟨by simp, fin.out⟩
set_option maxRecDepth 100000 in
set_option maxHeartbeats 4000000 in
theorem does_3 (w0 w : World) (g gr : Nat) (F G : Nat → Prop) (now : Int) (E : List M.Ent) (h : Pl w0 w g gr F G now E now E) (q : Ac) (hk : q.kind % 4 = 3) (hi : In64 q.id) :
    Calls Try.prog 12 #[.pointer (some ⟨g, 0, none⟩), .pointer (some ⟨gr, 0, none⟩), .agg #[.int .i64 q.kind, .int .i64 q.id, .int .i64 q.at_]] w fun e w' => e = .returned (.bool true) ∧ ∃ F' G' now' E', Dn w0 w w' g gr F G F' G' now' E' := by
  obtain ⟨W1, hW1⟩ : ∃ W, w.alloc (.cells #[.int .i64 q.kind, .int .i64 q.id, .int .i64 q.at_] 34) = W := ⟨_, rfl⟩
  have b1 : Below w.heap.size w W1 := hW1 ▸ (Below.refl _ _).alloc (Nat.le_refl _) _
  have bB : Blk W1 w.heap.size 34 #[.int .i64 q.kind, .int .i64 q.id, .int .i64 q.at_] := hW1 ▸ blk_new w _ _
  have p1 := h.below b1
  obtain ⟨oE, fE⟩ := h.wh.whl.ok
  have k1 := hidW (time_any W1 g F now E p1.wh.whl q.id hi)
  have k2 := hidW (rtime_any W1 gr G now E p1.rf fE q.id)
  have fin : Hid (∃ F' G' now' E', Dn w0 w W1 g gr F G F' G' now' E') := ⟨F, G, now, E, Dn.mk' p1 b1 (But.refl F W1) (fun _ x => .inl x) (But.refl G W1) (fun _ x => .inl x)⟩
  have e0 := bB.cell 0 _ rfl
  have e1 := bB.cell 1 _ rfl
  have hx := i64_and3
  generalize (M.tm E q.id).getD 0 = T at *
  generalize (M.tm E q.id).isSome = B at *
  clear h p1 bB oE fE b1
  go_enter Try.func12, Try.ntmps12
  go_wp2_with fail
  refine Calls.mono k1.out ?_
  rintro e W' ⟨rfl, hW'⟩
  rw [hW']
  clear hW' W' k1
  go_wp2_with fail
  refine Calls.mono k2.out ?_
  rintro e W' ⟨rfl, hW'⟩
  rw [hW']
  clear hW' W' k2
  go_wp2
  go_ret
  exact ⟨by simp, fin.out⟩
theorem does_any (w0 w : World) (g gr : Nat) (F G : Nat → Prop) (now : Int) (E : List M.Ent) (h : Pl w0 w g gr F G now E now E) (q : Ac) (hi : In64 q.id) :
    Calls Try.prog 12 #[.pointer (some ⟨g, 0, none⟩), .pointer (some ⟨gr, 0, none⟩), .agg #[.int .i64 q.kind, .int .i64 q.id, .int .i64 q.at_]] w fun e w' => e = .returned (.bool true) ∧ ∃ F' G' now' E', Dn w0 w w' g gr F G F' G' now' E' := by
  rcases (show q.kind % 4 = 0 ∨ q.kind % 4 = 1 ∨ q.kind % 4 = 2 ∨ q.kind % 4 = 3 by omega) with x | x | x | x
  · exact does_0 w0 w g gr F G now E h q x hi
  · exact does_1 w0 w g gr F G now E h q x hi
  · exact does_2 w0 w g gr F G now E h q x
  · exact does_3 w0 w g gr F G now E h q x hi
set_option maxRecDepth 100000 in
set_option maxHeartbeats 4000000 in
theorem stands_any (w0 w : World) (g gr : Nat) (F G : Nat → Prop) (now : Int) (E : List M.Ent) (h : Pl w0 w g gr F G now E now E) :
    Calls Try.prog 13 #[.pointer (some ⟨g, 0, none⟩), .pointer (some ⟨gr, 0, none⟩)] w fun e w' => e = .returned (.bool true) ∧ w' = w.drew := by
  obtain ⟨oE, fE⟩ := h.wh.whl.ok
  have k1 := hidW (next_any w g F now E h.wh.whl)
  have k2 := hidW (rnext_any w gr G now E h.rf fE)
  have pd := h.below (Below.refl w.heap.size w).drew
  have k3 := hidW (len_any w.drew g F now E pd.wh.whl)
  have k4 := hidW (now_any w.drew g F now E pd.wh.whl)
  obtain ⟨a, c, hm, _, _⟩ := h.rf.ex
  have c0 := hm.blk.cell 0 _ rfl
  have c1 := hm.blk.cell 1 _ rfl
  generalize nextT E = NT at *
  generalize E.head?.isSome = HB at *
  generalize E.length = n at *
  clear h pd hm oE
  go_enter Try.func13, Try.ntmps13
  go_wp2_with fail
  refine Calls.mono k1.out ?_
  rintro e W' ⟨rfl, hW'⟩
  rw [hW']
  clear hW' W' k1
  go_wp2_with fail
  refine Calls.mono k2.out ?_
  rintro e W' ⟨rfl, hW'⟩
  rw [hW']
  clear hW' W' k2
  go_wp2
  go_region_held3 (fun w'' => w''.cell? ⟨gr, 0, none⟩ = some (.int .i64 now) ∧ w''.cell? ⟨gr, 1, none⟩ = some (.slice a n c)) (go_keep) (first
    | (go_at_call 17; refine (k3.out).mono ?_; rintro e W8 ⟨rfl, rfl⟩)
    | (go_at_call 15; refine (k4.out).mono ?_; rintro e W8 ⟨rfl, rfl⟩))
  all_goals go_wp2
  all_goals go_ret
  all_goals exact ⟨by simp, rfl⟩
end Go.Proofs.Ytfcpjenlckkloaa
