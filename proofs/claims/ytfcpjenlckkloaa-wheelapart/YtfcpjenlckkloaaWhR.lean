/- The public contracts of Tick and Next; Same; alive. -/
import Derived.Test.YtfcpjenlckkloaaWhQ
import Derived.Deep.QuietTactic
import Derived.BigQuiet
namespace Go.Proofs.Ytfcpjenlckkloaa
open Go.RowKit
set_option linter.unusedVariables false
set_option linter.unusedSimpArgs false

/-- A slice of ints, as it is read. -/
structure RowI (w : World) (a : Option Addr) (l : List Int) : Prop where
  small : l.length ≤ 17592186044416
  cells : 0 < l.length → ∃ b off, a = some ⟨b, off, none⟩ ∧ ∀ i, i < l.length → w.cell? ⟨b, off + i, none⟩ = some (.int .i64 (l.getD i 0))
theorem RowI.below {w w' : World} {a : Option Addr} {l : List Int} (h : RowI w a l) (hb : Below w.heap.size w w') : RowI w' a l :=
  ⟨h.small, fun hl => by
    obtain ⟨b, off, ha, hc⟩ := h.cells hl
    exact ⟨b, off, ha, fun i hi => (hb.cell (World.block_lt_of_cell? w _ (hc i hi))).trans (hc i hi)⟩⟩
theorem below_drewN {B : Nat} {a w : World} (h : Below B a w) (n : Nat) : Below B a (w.drewN n) := h.trans ⟨rfl, rfl, rfl, Nat.le_refl _, fun _ _ => rfl⟩
theorem RowI.drewN {w : World} {a : Option Addr} {l : List Int} (h : RowI w a l) (n : Nat) : RowI (w.drewN n) a l := h.below (below_drewN (Below.refl _ _) n)
theorem RowI.alloc {w : World} {a : Option Addr} {l : List Int} (h : RowI w a l) (o : Obj) : RowI (w.alloc o) a l := h.below ((Below.refl _ _).alloc (Nat.le_refl _) o)
theorem Sl.own.row {w : World} {s : Sl} (h : s.own w) (hs : s.ids.length ≤ 17592186044416) : RowI w s.a s.ids :=
  ⟨hs, fun hp => by
    rcases h.cases with ⟨_, _, h3⟩ | ⟨g, cur, h1, h2, h3, h4, h5, h6⟩
    · rw [h3] at hp; simp at hp
    · refine ⟨g, 0, h1, fun i hi => ?_⟩
      have := (holds_of_blockI h2 h6 i (by simpa using hi)).1
      rw [this]
      simp [hi]⟩
theorem drewN_add (w : World) (m k : Nat) : (w.drewN m).drewN k = w.drewN (m + k) := by
  simp [World.drewN, Nat.add_assoc]
set_option maxHeartbeats 1000000 in
theorem same_any (a a' : Option Addr) (c c' : Nat) (l l' : List Int) (w : World) (h : RowI w a l) (h' : RowI w a' l') :
    Calls Try.prog 19 #[.slice a l.length c, .slice a' l'.length c'] w fun e w' => e = .returned (.bool (decide (l = l'))) ∧ ∃ n, w' = w.drewN n := by
  have hs := h.small
  by_cases hl : l.length = l'.length
  · obtain ⟨T, hT⟩ : ∃ T, decide (l = l') = T := ⟨_, rfl⟩
    rw [hT]
    have HT : Hid (decide (l = l') = T) := hT
    have HL : Hid (l.length = l'.length) := hl
    rw [← hl]
    obtain ⟨N, hN⟩ : ∃ N, l.length = N := ⟨_, rfl⟩
    have HN : Hid (l.length = N) := hN
    rw [hN] at hs ⊢
    clear hT hl hN
    go_enter Try.func19, Try.ntmps19
    go_wp2
    go_loopw [5] (fun i w' => ∃ (k m : Nat), k ≤ N ∧ i = .int .i64 k ∧ w' = w.drewN m ∧ Hid (l.take k = l'.take k)) (fun i _ => N - (intOf i).toNat)
    case atStart => exact ⟨0, 0, Nat.zero_le _, rfl, rfl, by show l.take 0 = l'.take 0; simp⟩
    case round =>
      obtain ⟨k, m, hk, rfl, rfl, ho⟩ := hrel
      by_cases hlt : k < N
      · obtain ⟨b, off, rfl, hcl⟩ := (h.drewN m).cells (by have := HN.out; omega)
        obtain ⟨b', off', rfl, hcl'⟩ := (h'.drewN m).cells (by have := HN.out; have := HL.out; omega)
        have c0 := hcl k (by have := HN.out; omega)
        have c1 := hcl' k (by have := HN.out; have := HL.out; omega)
        have hlk : (k : Int) < (N : Int) := by omega
        have hst : Hid ((l.take (k + 1) = l'.take (k + 1)) ↔ l.getD k 0 = l'.getD k 0) := by
          show _ ↔ _
          have e1 : l.take (k + 1) = l.take k ++ [l.getD k 0] := by rw [List.take_succ_eq_append_getElem (by have := HN.out; omega)]; simp [show k < l.length by have := HN.out; omega]
          have e2 : l'.take (k + 1) = l'.take k ++ [l'.getD k 0] := by rw [List.take_succ_eq_append_getElem (by have := HN.out; have := HL.out; omega)]; simp [show k < l'.length by have := HN.out; have := HL.out; omega]
          rw [e1, e2, ho.out]
          simp
        obtain ⟨W, hW⟩ : ∃ W, w.drewN m = W := ⟨_, rfl⟩
        rw [hW] at c0 c1 ⊢
        have HW : Hid (w.drewN m = W) := hW
        clear hcl hcl' h h' hW
        generalize l.getD k 0 = x at *
        generalize l'.getD k 0 = y at *
        by_cases hxy : x = y
        · have hxy' : (x != y) = false := by simpa using hxy
          go_wp2
          go_quiet (fail)
          go_wp2
          exact ⟨⟨k + 1, m + nq, by omega, int_eq (by omega), by rw [← HW.out]; exact drewN_add w m nq, hst.out.2 hxy⟩, by simp [intOf]; omega⟩
        · have hxy' : (x != y) = true := by simpa using hxy
          have ET : Hid (false = T) := by
            show false = T
            rw [← HT.out]
            symm
            simp only [decide_eq_false_iff_not]
            intro e
            exact hxy (hst.out.1 (by rw [e]))
          go_wp2
          go_quiet (fail)
          go_wp2
          go_ret
          exact ⟨by rw [← ET.out]; rfl, m + nq, by rw [← HW.out]; exact drewN_add w m nq⟩
      · have hlt' : ¬ (k : Int) < (N : Int) := by omega
        have ET : Hid (true = T) := by
          show true = T
          rw [← HT.out]
          symm
          simp only [decide_eq_true_eq]
          have := ho.out
          rwa [List.take_of_length_le (by have := HN.out; omega), List.take_of_length_le (by have := HN.out; have := HL.out; omega)] at this
        go_wp2
        go_ret
        exact ⟨by rw [← ET.out]; rfl, m, rfl⟩
  · have e : decide (l = l') = false := by simp; intro e; exact hl (by rw [e])
    rw [e]
    have hl' : ((l.length : Int) != (l'.length : Int)) = true := by simp; omega
    clear e
    go_enter Try.func19, Try.ntmps19
    go_wp2
    go_ret
    exact ⟨rfl, 0, rfl⟩
/-! ### Tick, Next -/
/-- What Tick answers, and leaves. -/
def tickOk (now to : Int) : Bool := decide (now ≤ to) && decide (to ≤ 4611686018427387904)
def tickR (now to : Int) : Int := if tickOk now to then 0 else 25
def tickL (now : Int) (E : List M.Ent) (to : Int) : List Int := if tickOk now to then (M.dueE E to).map (·.1) else []
def tickE (now : Int) (E : List M.Ent) (to : Int) : List M.Ent := if tickOk now to then M.restE E to else E
def tickN (now to : Int) : Int := if tickOk now to then to else now
/-- A wheel behind Tick, and the slice that it answered. -/
structure Tk (w w' : World) (g : Nat) (F F' : Nat → Prop) (now : Int) (E : List M.Ent) (D : Sl) : Prop where
  whl : Whl w' g F' now E
  wf : ∀ k, F' k → nx F w w' k
  due : D.own w'
  new : ∀ k, D.at_ k → w.heap.size ≤ k
  dF : ∀ k, D.at_ k → ¬ F' k
  but : But F w w'
theorem tick_any (w : World) (g : Nat) (F : Nat → Prop) (now to : Int) (E : List M.Ent) (h : Whl w g F now E) :
    Calls Try.prog 16 #[.pointer (some ⟨g, 0, none⟩), .int .i64 to] w fun e w' => ∃ (a : Option Addr) (c : Nat) (F' : Nat → Prop), e = .returned (.tuple #[.slice a (tickL now E to).length c, .int .i64 (tickR now to)]) ∧ Tk w w' g F F' (tickN now to) (tickE now E to) ⟨a, c, tickL now E to⟩ := by
  obtain ⟨m, sl, h1, h2, h3⟩ := h.ex
  by_cases hk : tickOk now to = true
  · have hb : now ≤ to ∧ to ≤ 4611686018427387904 := by simpa [tickOk] using hk
    unfold tickL tickR tickN tickE
    rw [if_pos hk, if_pos hk, if_pos hk, if_pos hk]
    refine (tick_y w g m now to E sl h1 h2 hb.1 hb.2).mono ?_
    rintro e w' ⟨a, c, sl', rfl, T⟩
    refine ⟨a, c, fun k => nx F w w' k ∧ ¬ Sl.at_ ⟨a, c, (M.dueE E to).map (·.1)⟩ k, rfl, ⟨⟨m, sl', T.wm, T.inn, fun k hk => ⟨?_, fun x => T.dF k x hk⟩⟩, fun k hk => ?_⟩, fun k hk => hk.1, T.due, T.new, fun k hk x => x.2 hk, T.but.mono (fun n _ x => h3 n x)⟩
    · rcases T.wf k hk with x | x
      · exact .inl (h3 k x)
      · exact .inr ⟨x, T.wm.lt hk⟩
    · rcases hk.1 with x | x
      · exact Nat.lt_of_lt_of_le (h.lt k x) T.but.size
      · exact x.2
  · have hb : to < now ∨ 4611686018427387904 < to := by
      simp [tickOk] at hk
      omega
    unfold tickL tickR tickN tickE
    rw [if_neg hk, if_neg hk, if_neg hk, if_neg hk]
    refine (tick_n w g m now to E sl h1 hb).mono ?_
    rintro e w' ⟨rfl, b⟩
    exact ⟨none, 0, F, rfl, h.below b, fun k hk => .inl hk, nilSl_own _, fun k hk => absurd hk (nil_at k), fun k hk => absurd hk (nil_at k), But.of_below b _⟩
def nextT (E : List M.Ent) : Int := (E.head?.map (·.2)).getD 0
theorem next_any (w : World) (g : Nat) (F : Nat → Prop) (now : Int) (E : List M.Ent) (h : Whl w g F now E) :
    Calls Try.prog 21 #[.pointer (some ⟨g, 0, none⟩)] w fun e w' => e = .returned (.tuple #[.int .i64 (nextT E), .bool E.head?.isSome]) ∧ w' = w := by
  obtain ⟨m, sl, h1, h2, h3⟩ := h.ex
  cases E with
  | nil => exact next_none w g m now sl h1
  | cons p L => exact next_some w g m now p L sl h1 h2
theorem new_any (now : Int) (w : World) (h : rtB now = true) :
    Calls Try.prog 9 #[.int .i64 now] w fun e w' => ∃ F, e = .returned (.tuple #[.pointer (some ⟨w.heap.size + 1, 0, none⟩), .int .i64 0]) ∧ Whl w' (w.heap.size + 1) F now [] ∧ (∀ k, F k → w.heap.size ≤ k) ∧ Below w.heap.size w w' := by
  refine (new_y now w h).mono ?_
  rintro e w' ⟨rfl, rfl⟩
  exact ⟨_, rfl, new_whl now w h, fun k hk => by rcases hk with x | x <;> omega, new_below now w⟩
end Go.Proofs.Ytfcpjenlckkloaa
