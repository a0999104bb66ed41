/- Wheels that are wholly new; alive. -/
import Derived.Test.YtfcpjenlckkloaaWhR
namespace Go.Proofs.Ytfcpjenlckkloaa
open Go.RowKit
set_option linter.unusedVariables false
set_option linter.unusedSimpArgs false

/-- A wheel of which all was made since w0, and nothing else turned. -/
structure Wn (w0 w : World) (g : Nat) (F : Nat → Prop) (now : Int) (E : List M.Ent) : Prop where
  whl : Whl w g F now E
  new : ∀ k, F k → w0.heap.size ≤ k
  bel : Below w0.heap.size w0 w
theorem nx_new {F : Nat → Prop} {w0 w w' : World} (h : ∀ k, F k → w0.heap.size ≤ k) (hb : w0.heap.size ≤ w.heap.size) {k : Nat} (hk : nx F w w' k) : w0.heap.size ≤ k := by
  rcases hk with x | x
  · exact h k x
  · omega
theorem Wn.bel' {w0 w w' : World} {g : Nat} {F : Nat → Prop} {now : Int} {E : List M.Ent} (h : Wn w0 w g F now E) (hb : But F w w') : Below w0.heap.size w0 w' :=
  h.bel.trans (hb.to_below h.bel.size (fun k hk x => by have := h.new k x; omega))
theorem new_w (now : Int) (w : World) (h : rtB now = true) :
    Calls Try.prog 9 #[.int .i64 now] w fun e w' => ∃ F g, e = .returned (.tuple #[.pointer (some ⟨g, 0, none⟩), .int .i64 0]) ∧ Wn w w' g F now [] := by
  refine (new_any now w h).mono ?_
  rintro e w' ⟨F, rfl, h1, h2, h3⟩
  exact ⟨F, _, rfl, h1, h2, h3⟩
theorem set_w (w0 w : World) (g : Nat) (F : Nat → Prop) (now : Int) (E : List M.Ent) (h : Wn w0 w g F now E) (id at_ : Int) (hi : In64 id) :
    Calls Try.prog 14 #[.pointer (some ⟨g, 0, none⟩), .int .i64 id, .int .i64 at_] w fun e w' => ∃ F', e = .returned (.int .i64 (setR E id at_)) ∧ Wn w0 w' g F' now (setS E id at_) ∧ But F w w' ∧ (∀ k, F' k → nx F w w' k) := by
  refine (set_any w g F now E h.whl id at_ hi).mono ?_
  rintro e w' ⟨rfl, h1, h2⟩
  exact ⟨_, rfl, ⟨h1, fun k hk => nx_new h.new h.bel.size hk, h.bel' h2⟩, h2, fun _ x => x⟩
theorem drop_w (w0 w : World) (g : Nat) (F : Nat → Prop) (now : Int) (E : List M.Ent) (h : Wn w0 w g F now E) (id : Int) (hi : In64 id) :
    Calls Try.prog 18 #[.pointer (some ⟨g, 0, none⟩), .int .i64 id] w fun e w' => ∃ F', e = .returned (.bool (M.tm E id).isSome) ∧ Wn w0 w' g F' now (M.dropE E id) ∧ But F w w' ∧ (∀ k, F' k → nx F w w' k) := by
  refine (drop_any w g F now E h.whl id hi).mono ?_
  rintro e w' ⟨rfl, h1, h2⟩
  exact ⟨_, rfl, ⟨h1, fun k hk => nx_new h.new h.bel.size hk, h.bel' h2⟩, h2, fun _ x => x⟩
theorem tick_w (w0 w : World) (g : Nat) (F : Nat → Prop) (now to : Int) (E : List M.Ent) (h : Wn w0 w g F now E) :
    Calls Try.prog 16 #[.pointer (some ⟨g, 0, none⟩), .int .i64 to] w fun e w' => ∃ (a : Option Addr) (c : Nat) (F' : Nat → Prop), e = .returned (.tuple #[.slice a (tickL now E to).length c, .int .i64 (tickR now to)]) ∧ Wn w0 w' g F' (tickN now to) (tickE now E to) ∧ Tk w w' g F F' (tickN now to) (tickE now E to) ⟨a, c, tickL now E to⟩ := by
  refine (tick_any w g F now to E h.whl).mono ?_
  rintro e w' ⟨a, c, F', rfl, T⟩
  exact ⟨a, c, F', rfl, ⟨T.whl, fun k hk => nx_new h.new h.bel.size (T.wf k hk), h.bel' T.but⟩, T⟩
theorem Wn.below {w0 w w' : World} {g : Nat} {F : Nat → Prop} {now : Int} {E : List M.Ent} (h : Wn w0 w g F now E) (hb : Below w.heap.size w w') : Wn w0 w' g F now E :=
  ⟨h.whl.below hb, h.new, h.bel.trans (hb.mono h.bel.size)⟩
theorem row_lit (w : World) (g : Nat) (cs : Array Value) (l : List Int) (h : Blk w g 3 cs) (hc : ∀ i, i < l.length → cs[i]? = some (.int .i64 (l.getD i 0))) (hs : l.length ≤ 1000) : RowI w (some ⟨g, 0, none⟩) l :=
  ⟨by omega, fun _ => ⟨g, 0, rfl, fun i hi => h.cell (0 + i) _ (by rw [Nat.zero_add]; exact hc i hi)⟩⟩
set_option maxRecDepth 100000 in
set_option maxHeartbeats 4000000 in
theorem alive_any (w : World) : Calls Try.prog 11 #[] w fun e w' => e = .returned (.bool true) ∧ Below w.heap.size w w' := by
  have k0 := hidW (new_w 0 w rfl)
  go_enter Try.func11, Try.ntmps11
  go_wp2_with fail
  refine Calls.mono k0.out ?_
  rintro e w1 ⟨F1, g, rfl, n1⟩
  clear k0
  have k1 := hidW (set_w w w1 g F1 0 [] n1 7 100 ⟨by decide, by decide⟩)
  go_wp2_with fail
  refine Calls.mono k1.out ?_
  rintro e w2 ⟨F2, rfl, n2, -⟩
  clear k1 n1
  have k1 := hidW (set_w w w2 g F2 0 _ n2 9 5 ⟨by decide, by decide⟩)
  go_wp2_with fail
  refine Calls.mono k1.out ?_
  rintro e w3 ⟨F3, rfl, n3, -⟩
  clear k1 n2
  have k1 := hidW (set_w w w3 g F3 0 _ n3 8 5 ⟨by decide, by decide⟩)
  go_wp2_with fail
  refine Calls.mono k1.out ?_
  rintro e w4 ⟨F4, rfl, n4, -⟩
  clear k1 n3
  have e4 : setS (setS (setS [] 7 100) 9 5) 8 5 = [(8, 5), (9, 5), (7, 100)] := by decide
  rw [e4] at n4
  have k1 := hidW (tick_w w w4 g F4 0 99 _ n4)
  have e5 : tickL 0 [(8, 5), (9, 5), (7, 100)] 99 = [8, 9] := by decide
  have e6 : tickR 0 99 = 0 := by decide
  have e7 : tickE 0 [(8, 5), (9, 5), (7, 100)] 99 = [(7, 100)] := by decide
  have e8 : tickN 0 99 = 99 := by decide
  rw [e5, e6, e7, e8] at k1
  clear e4 e5 e6 e7 e8 n4
  go_wp2_with fail
  refine Calls.mono k1.out ?_
  rintro e w5 ⟨a5, c5, F5, rfl, n5, T5⟩
  clear k1
  have k1 := hidW (tick_w w w5 g F5 99 100 _ n5)
  have e5 : tickL 99 [(7, 100)] 100 = [7] := by decide
  have e6 : tickR 99 100 = 0 := by decide
  have e7 : tickE 99 [(7, 100)] 100 = [] := by decide
  have e8 : tickN 99 100 = 100 := by decide
  rw [e5, e6, e7, e8] at k1
  clear e5 e6 e7 e8
  have d5 := T5.due
  have f5 := T5.dF
  clear T5 n5
  go_wp2_with fail
  refine Calls.mono k1.out ?_
  rintro e w6 ⟨a6, c6, F6, rfl, n6, T6⟩
  clear k1
  have r5 := (d5.but T6.but f5).row (by simp)
  have r6 := T6.due.row (by simp)
  simp only at r5 r6
  clear T6 d5 f5
  have b6 := n6.bel
  have q1 := row_lit (w6.alloc (.cells #[.int .i64 8, .int .i64 9] 3)) w6.heap.size _ [8, 9] (blk_new w6 _ _) (fun i hi => by
    simp at hi
    rcases (show i = 0 ∨ i = 1 by omega) with rfl | rfl <;> rfl) (by simp)
  have kS := hidW (same_any a5 (some ⟨w6.heap.size, 0, none⟩) c5 2 [8, 9] [8, 9] _ (r5.alloc _) q1)
  have b7 : Below w6.heap.size w6 (w6.alloc (.cells #[.int .i64 8, .int .i64 9] 3)) := (Below.refl _ _).alloc (Nat.le_refl _) _
  have kT : Hid (∀ W, Below w6.heap.size w6 W → Calls Try.prog 19 #[.slice a6 1 c6, .slice (some ⟨W.heap.size, 0, none⟩) 1 1] (W.alloc (.cells #[.int .i64 7] 3)) fun e w' => e = .returned (.bool true) ∧ Wn w w' g F6 100 []) := fun W hW => by
    have q2 := row_lit (W.alloc (.cells #[.int .i64 7] 3)) W.heap.size _ [7] (blk_new W _ _) (fun i hi => by
      simp at hi
      subst hi
      rfl) (by simp)
    refine (same_any a6 (some ⟨W.heap.size, 0, none⟩) c6 1 [7] [7] _ ((r6.below hW).alloc _) q2).mono ?_
    rintro e w' ⟨rfl, n, rfl⟩
    refine ⟨rfl, (n6.below hW).below ?_⟩
    exact below_drewN ((Below.refl _ _).alloc (Nat.le_refl _) _) n
  have kR : Hid (Calls Try.prog 19 #[.slice a5 2 c5, .slice (some ⟨w6.heap.size, 0, none⟩) 2 2] (w6.alloc (.cells #[.int .i64 8, .int .i64 9] 3)) fun e w' => e = .returned (.bool true) ∧ Below w6.heap.size w6 w') := by
    refine kS.out.mono ?_
    rintro e w' ⟨rfl, n, rfl⟩
    exact ⟨rfl, below_drewN b7 n⟩
  clear r5 r6 q1 b7 n6 kS
  go_wp2_with fail
  refine Calls.mono kR.out ?_
  rintro e w7 ⟨rfl, b7⟩
  have kU := hidW (kT.out w7 b7)
  clear kT kR
  go_wp2_with fail
  refine Calls.mono kU.out ?_
  rintro e w8 ⟨rfl, n8⟩
  have kL := hidW (len_any w8 g F6 100 [] n8.whl)
  have b8 := n8.bel
  clear kU n8
  go_wp2_with fail
  refine Calls.mono kL.out ?_
  rintro e W' ⟨rfl, hW'⟩
  rw [hW']
  go_wp2
  go_ret
  exact ⟨rfl, b8⟩
end Go.Proofs.Ytfcpjenlckkloaa
