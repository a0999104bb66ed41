/- soonest, Next; the public contract of Tick. -/
import Derived.Test.YtfcpjenlckkloaaWhP
namespace Go.Proofs.Ytfcpjenlckkloaa
open Go.RowKit
set_option linter.unusedVariables false
set_option linter.unusedSimpArgs false

/-- The first p slots have nothing. -/
def Bare (sl : List Sl) (p : Nat) : Prop := ∀ (j : Nat) (s : Sl), j < p → sl[j]? = some s → s.ids = []
set_option maxRecDepth 100000 in
set_option maxHeartbeats 4000000 in
theorem soonest_any (w : World) (g m : Nat) (now : Int) (E : List M.Ent) (sl : List Sl) (h : Wm w g m now E sl) :
    Calls Try.prog 36 #[.pointer (some ⟨g, 0, none⟩)] w fun e w' => w' = w ∧ ∃ s : Sl, e = .returned s.v ∧ ((∃ k : Nat, sl[k]? = some s ∧ s.ids ≠ [] ∧ Bare sl k) ∨ (s = nilSl ∧ Bare sl 704)) := by
  have hc : Hid (∀ r i : Nat, r < 11 → i < 64 → ∃ s, sl[64 * r + i]? = some s ∧ w.cell? ⟨g, 3 + r * 64 + i, none⟩ = some s.v) := fun r i hr hi => by
    obtain ⟨s, hs⟩ : ∃ s, sl[64 * r + i]? = some s := ⟨_, List.getElem?_eq_getElem (by rw [h.len]; omega)⟩
    refine ⟨s, hs, ?_⟩
    have := h.blk.cell (3 + (64 * r + i)) _ (wc_3 now m sl hs)
    rwa [show 3 + (64 * r + i) = 3 + r * 64 + i by omega] at this
  clear h
  go_enter Try.func36, Try.ntmps36
  go_wp2
  go_loopw [5] (fun i wr => wr = w ∧ ∃ (r : Nat), r ≤ 11 ∧ i = .int .i64 r ∧ Hid (Bare sl (64 * r))) (fun i _ => 11 - (intOf i).toNat)
  case atStart => exact ⟨rfl, 0, by omega, rfl, fun j s hj => by omega⟩
  case round =>
    obtain ⟨rfl, r, hr, rfl, hb⟩ := hrel
    by_cases hl : r < 11
    · have r0 : (0 : Int) ≤ ↑r := by omega
      have r1 : (↑r : Int) < 11 := by omega
      go_wp2_with fail
      go_loopw [8] (fun i wr2 => wr2 = wr ∧ ∃ (k : Nat), k ≤ 64 ∧ i = .int .i64 k ∧ Hid (Bare sl (64 * r + k))) (fun i _ => 64 - (intOf i).toNat)
      case atStart => exact ⟨rfl, 0, by omega, rfl, hb⟩
      case round =>
        obtain ⟨rfl, k, hk, rfl, hb2⟩ := hrel
        by_cases hlt : k < 64
        · have i0 : (0 : Int) ≤ ↑k := by omega
          have i1 : (↑k : Int) < 64 := by omega
          obtain ⟨s, hs, cs⟩ := hc.out r k hl hlt
          by_cases hn : s.ids = []
          · have hb3 : Hid (Bare sl (64 * r + (k + 1))) := fun j s' hj hs' => by
              rcases Nat.lt_or_ge j (64 * r + k) with x | x
              · exact hb2.out j s' x hs'
              · have : j = 64 * r + k := by omega
                subst this
                rw [hs] at hs'
                cases hs'
                exact hn
            have hn0 : ¬ (0 : Int) < ↑s.ids.length := by rw [hn]; simp
            have hsl : s.ids.length = 0 := by rw [hn]; rfl
            clear hs hn hb hb2
            go_wp2
            exact ⟨⟨by trivial, k + 1, by omega, int_eq (by omega), hb3⟩, by simp [intOf] <;> omega⟩
          · have hn0 : (0 : Int) < ↑s.ids.length := by
              have := List.length_pos_iff.2 hn
              omega
            have fin : Hid ((∃ k : Nat, sl[k]? = some s ∧ s.ids ≠ [] ∧ Bare sl k) ∨ (s = nilSl ∧ Bare sl 704)) := .inl ⟨_, hs, hn, hb2.out⟩
            clear hs hn hb hb2
            go_wp2
            go_ret
            first | exact ⟨rfl, s, rfl, fin.out⟩ | exact ⟨s, rfl, fin.out⟩
        · have ek : k = 64 := by omega
          subst ek
          go_wp2
          exact ⟨⟨by trivial, r + 1, by omega, int_eq (by omega), by have := hb2.out; rwa [show 64 * r + 64 = 64 * (r + 1) by omega] at this⟩, by simp [intOf] <;> omega⟩
    · have ek : r = 11 := by omega
      subst ek
      have fin : Hid (Bare sl 704) := hb
      go_wp2
      go_ret
      first | exact ⟨rfl, nilSl, rfl, .inr ⟨rfl, fin.out⟩⟩ | exact ⟨nilSl, rfl, .inr ⟨rfl, fin.out⟩⟩
/-- The least. -/
def mins (T : Int → Int) (l : List Int) : Int := l.foldl (fun a x => min a (T x)) 4611686018427387904
theorem foldl_min {T : Int → Int} {t : Int} : ∀ {l : List Int} {a : Int}, t ≤ a → (∀ x ∈ l, t ≤ T x) → (a = t ∨ ∃ x ∈ l, T x = t) → l.foldl (fun a x => min a (T x)) a = t
  | [], a, h1, h2, h3 => by
    rcases h3 with h3 | ⟨x, hx, _⟩
    · exact h3
    · simp at hx
  | y :: l, a, h1, h2, h3 => by
    have hy := h2 y (by simp)
    rw [List.foldl_cons]
    refine foldl_min (by omega) (fun x hx => h2 x (by simp [hx])) ?_
    rcases h3 with h3 | ⟨x, hx, e⟩
    · left; omega
    · rcases List.mem_cons.1 hx with rfl | hx
      · left; omega
      · exact .inr ⟨x, hx, e⟩
theorem next_min {w : World} {g m : Nat} {now : Int} {E : List M.Ent} {sl : List Sl} (h : Wm w g m now E sl) (hin : In now (fun x t => (x, t) ∈ E) sl) {p : M.Ent} {L : List M.Ent} (hE : E = p :: L) {s : Sl} (hs : (∃ k : Nat, sl[k]? = some s ∧ s.ids ≠ [] ∧ Bare sl k) ∨ (s = nilSl ∧ Bare sl 704)) :
    mins (fun x => (M.tm E x).getD 0) s.ids = p.2 := by
  have hp : p ∈ E := by rw [hE]; simp
  have hb := h.ok.bnd p hp
  obtain ⟨s0, hs0⟩ := h.slotOf hb.2.1
  have hm0 : p.1 ∈ s0.ids := ((hin _ s0 hs0).2 p.1).2 ⟨p.2, hp, rfl⟩
  have hl := M.slot_lt h.now0 h.now1 hb.2.1
  rcases hs with ⟨k, h1, h2, h3⟩ | ⟨_, h3⟩
  · have hk : k ≤ M.slot now p.2 := by
      rcases Nat.lt_or_ge (M.slot now p.2) k with x | x
      · rw [h3 _ s0 x hs0] at hm0
        simp at hm0
      · exact x
    have key : ∀ x u, (x, u) ∈ E → p.2 ≤ u := fun x u hx => by
      rw [hE] at hx
      rcases List.mem_cons.1 hx with e | hx
      · rw [← e]; exact Int.le_refl _
      · have hsr := h.ok.srt
        rw [hE] at hsr
        have := (M.bef_iff _ _).1 ((List.pairwise_cons.1 hsr).1 _ hx)
        simp only at this
        omega
    have hin1 := hin k s h1
    have hkk : k = M.slot now p.2 := by
      obtain ⟨x, hx⟩ := List.exists_mem_of_ne_nil _ h2
      obtain ⟨u, h4, h5⟩ := (hin1.2 x).1 hx
      have := M.slot_mono h.now0 h.now1 (key x u h4) (h.ok.bnd _ h4).2.1
      omega
    refine foldl_min hb.2.1 (fun x hx => ?_) (.inr ⟨p.1, (hin1.2 p.1).2 ⟨p.2, hp, hkk.symm⟩, ?_⟩)
    · obtain ⟨u, h4, _⟩ := (hin1.2 x).1 hx
      show p.2 ≤ (M.tm E x).getD 0
      rw [(h.ok.tm_iff x u).2 h4]
      exact key x u h4
    · show (M.tm E p.1).getD 0 = p.2
      rw [(h.ok.tm_iff p.1 p.2).2 hp]
      rfl
  · rw [h3 _ s0 hl hs0] at hm0
    simp at hm0
set_option maxHeartbeats 4000000 in
theorem next_none (w : World) (g m : Nat) (now : Int) (sl : List Sl) (h : Wm w g m now [] sl) :
    Calls Try.prog 21 #[.pointer (some ⟨g, 0, none⟩)] w fun e w' => e = .returned (.tuple #[.int .i64 0, .bool false]) ∧ w' = w := by
  have c0 := h.blk.cell 0 _ (wc_0 ..)
  have c2 := h.blk.cell 2 _ (wc_2 ..)
  have K := isMade_at g true w c0
  have LL := h.map.len 3
  clear h
  go_enter Try.func21, Try.ntmps21
  go_wp2_with fail
  refine Calls.mono K ?_
  rintro e w' ⟨rfl, rfl⟩
  go_wp2
  go_ret2
  exact ⟨rfl, rfl⟩
set_option maxRecDepth 100000 in
set_option maxHeartbeats 4000000 in
theorem next_some (w : World) (g m : Nat) (now : Int) (p : M.Ent) (L : List M.Ent) (sl : List Sl) (h : Wm w g m now (p :: L) sl) (hin : In now (fun x t => (x, t) ∈ p :: L) sl) :
    Calls Try.prog 21 #[.pointer (some ⟨g, 0, none⟩)] w fun e w' => e = .returned (.tuple #[.int .i64 p.2, .bool true]) ∧ w' = w := by
  have c0 := h.blk.cell 0 _ (wc_0 ..)
  have c2 := h.blk.cell 2 _ (wc_2 ..)
  have K := isMade_at g true w c0
  have LL := h.map.len 3
  have hz : ((((p :: L).length : Nat) : Int) == 0) = false := by simp; omega
  have KS : Hid (Calls Try.prog 36 #[.pointer (some ⟨g, 0, none⟩)] w fun e w' => w' = w ∧ ∃ (a : Option Addr) (c : Nat) (l : List Int), e = .returned (.slice a l.length c) ∧ l.length ≤ 1024 ∧ Hid (mins (fun x => (M.tm (p :: L) x).getD 0) l = p.2) ∧
      Hid (∀ (j : Nat) (x : Int), l[j]? = some x → ∃ b, a = some ⟨b, 0, none⟩ ∧ w.cell? ⟨b, j, none⟩ = some (.int .i64 x) ∧ (Instr.lookup 53 (.map (some m)) (.int .i64 x) false).run Try.prog w = .ok (.int .i64 ((M.tm (p :: L) x).getD 0)) w)) := by
    refine (soonest_any w g m now (p :: L) sl h).mono ?_
    rintro e w' ⟨rfl, s, rfl, hs⟩
    have hmn := next_min h hin rfl hs
    refine ⟨rfl, s.a, s.c, s.ids, rfl, ?_, hmn, fun j x hx => ?_⟩
    · rcases hs with ⟨k, h1, _⟩ | ⟨rfl, _⟩
      · have := hin.len (fun _ _ x => x) h1
        have := h.few
        omega
      · simp [nilSl]
    · rcases hs with ⟨k, h1, _⟩ | ⟨rfl, _⟩
      · obtain ⟨b, hb1, hb2⟩ := own_cell (h.own k s h1) hx
        obtain ⟨u, h4, _⟩ := ((hin k s h1).2 x).1 (List.mem_of_getElem? hx)
        have hb := h.ok.bnd _ h4
        exact ⟨b, hb1, hb2, h.map.look1 ⟨hb.2.2.1, hb.2.2.2⟩⟩
      · simp [nilSl] at hx
  clear h hin
  generalize (((p :: L).length : Nat) : Int) = n at *
  generalize p :: L = E at *
  go_enter Try.func21, Try.ntmps21
  go_wp2_with fail
  refine Calls.mono K ?_
  rintro e W' ⟨rfl, hW'⟩
  rw [hW']
  clear hW' W'
  go_wp2_with fail
  refine Calls.mono KS.out ?_
  rintro e W' ⟨hW', a, c, l, rfl, hll, hmn, hcl⟩
  rw [hW']
  clear hW' W' KS K
  go_wp2_with fail
  obtain ⟨b, rfl⟩ | hl0 : (∃ b, a = some ⟨b, 0, none⟩) ∨ l = [] := by
    cases l with
    | nil => exact .inr rfl
    | cons x l => obtain ⟨b, hb, _⟩ := hcl.out 0 x rfl; exact .inl ⟨b, hb⟩
  · go_loopw [4, 21] (fun v i wr => wr = w ∧ ∃ (j : Nat), j ≤ l.length ∧ i = .int .i64 j ∧ v = .int .i64 (mins (fun x => (M.tm E x).getD 0) (l.take j))) (fun _ i _ => l.length - (intOf i).toNat)
    case atStart => exact ⟨rfl, 0, by omega, rfl, rfl⟩
    case round =>
      obtain ⟨rfl, j, hj, rfl, rfl⟩ := hrel
      by_cases hlt : j < l.length
      · obtain ⟨x, hx⟩ : ∃ x, l[j]? = some x := ⟨_, List.getElem?_eq_getElem hlt⟩
        obtain ⟨b', hb', q1, q2⟩ := hcl.out j x hx
        cases hb'
        have i1 : (↑j : Int) < ↑l.length := by omega
        have i0 : (0 : Int) ≤ ↑j := by omega
        have hms : mins (fun x => (M.tm E x).getD 0) (l.take (j + 1)) = min (mins (fun x => (M.tm E x).getD 0) (l.take j)) ((M.tm E x).getD 0) := by
          unfold mins
          rw [List.take_add_one, hx]
          simp
        have HM := hidW hms
        generalize mins (fun x => (M.tm E x).getD 0) (l.take j) = A at *
        clear hms
        go_wp2
        exact ⟨⟨by trivial, j + 1, by omega, int_eq (by omega), by rw [HM.out]⟩, by simp [intOf] <;> omega⟩
      · have i1 : ¬ (↑j : Int) < ↑l.length := by omega
        have hf : mins (fun x => (M.tm E x).getD 0) (l.take j) = p.2 := by rw [List.take_of_length_le (by omega)]; exact hmn.out
        rw [hf]
        go_wp2
        go_ret2
        exact ⟨rfl, rfl⟩
  · subst hl0
    have hf : (4611686018427387904 : Int) = p.2 := hmn.out
    go_loopw [4, 21] (fun v i wr => wr = w ∧ i = .int .i64 0 ∧ v = .int .i64 4611686018427387904) (fun _ i _ => 0)
    case atStart => exact ⟨rfl, rfl, rfl⟩
    case round =>
      obtain ⟨rfl, rfl, rfl⟩ := hrel
      have hf := hidW hf
      go_wp2
      go_ret2
      exact ⟨by rw [← hf.out]; rfl, rfl⟩
end Go.Proofs.Ytfcpjenlckkloaa
