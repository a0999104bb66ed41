/- Texts joined: Parts -/
import Derived.Test.YtmnkdogdligckaaIp6zb1
import Derived.Test.YtmnkdogdligckaaIp6zb3
import Derived.Laws.BytesArg
import Derived.Laws.MakeOwn
namespace Go.Proofs.Ytmnkdogdligckaa
open Go.RowKit
set_option linter.unusedVariables false
/-- A value that the call made: a slice of the bytes l in memory of its own. -/
structure Fresh (w w' : World) (a : Option Addr) (c : Nat) (l : List Int) : Prop where
  owns : Owns w' w.heap.size (.slice a l.length c) l
  room : l.length ≤ c
  nil : a = none → c = 0
  row : Row w' a l
  below : Below w.heap.size w w'
theorem conv_row {w : World} {a : Option Addr} {l : List Int} (h : Row w a l) (c : Nat) : (convert 22 9 (.slice a l.length c)).run Try.prog w = .ok (.string (strOfNums l)) w := by
  cases a with
  | none =>
    have hl : l = [] := by
      cases l with
      | nil => rfl
      | cons y l => obtain ⟨b, off, hh, _⟩ := h.cells (by simp); cases hh
    subst hl
    exact run_convert_bytes_nil w _ 5 Try.underlying22 Try.underlying5 _ _ _ Try.underlying9
  | some x =>
    by_cases hp : 0 < l.length
    · obtain ⟨b, off, hh, hc⟩ := h.cells hp
      cases hh
      exact run_convert_bytes_arg w _ 5 Try.underlying22 Try.underlying5 b off _ _ l rfl hc _ Try.underlying9
    · have hl : l = [] := by cases l with | nil => rfl | cons _ _ => simp at hp
      subst hl
      rw [run_convert_bytes_string w _ _ 5 _ _ _ Try.underlying22 Try.underlying5 Try.underlying9]
      show Sem.run _ (Conv.bytesToString (.slice (some x) 0 c)) w = _
      rw [run_bytesToString w x 0 c [] (by
        have := run_loadCells_list (P := Try.prog) w x [] (fun j v hj => by simp at hj)
        simpa using this)]
      rfl
set_option maxHeartbeats 400000 in
theorem same_any (a b : Option Addr) (c d : Nat) (l : List Int) (w : World) (h : Row w a l) (h' : Row w b l) :
    Calls Try.prog 13 #[.slice a l.length c, .slice b l.length d] w fun e w' => e = .returned (.bool true) ∧ w' = w := by
  have e1 := conv_row h c
  have e2 := conv_row h' d
  go_enter Try.func13, Try.ntmps13
  go_wp2
  go_ret
  exact ⟨rfl, rfl⟩
set_option maxHeartbeats 400000 in
theorem longer_any (a : Option Addr) (c : Nat) (l : List Int) (n : Int) (w : World) (h : Row w a l) (hnil : a = none → c = 0) (hl : l.length ≤ 140737488351232) (h0 : 0 ≤ n) (h1 : n ≤ 4096) :
    Calls Try.prog 51 #[.slice a l.length c, .int .i64 n] w fun e w' => ∃ a' c', e = .returned (.slice a' l.length c') ∧ Fresh w w' a' c' l := by
  obtain ⟨i0, hi, hz0, hz1, hz2⟩ := info_parts info_u8
  go_enter Try.func51, Try.ntmps51
  go_wp2_with (first
    | (at_make; refine wpList_make_own _ rfl _ _ 22 rfl w.heap.size 5 i0 (.int .u8 0) 1 Try.underlying22 hi hz0 hz1 _ _ _ (l.length + n.toNat) rfl rfl (by omega) (by rw [hz2]; omega) (by unfold maxLen; omega) (Nat.le_refl _) ?_))
  intro w1 ho1 hg1
  have hb1 : Below w.heap.size w w1 := (Below.refl _ _).grown hg1 (Nat.le_refl _) (fun k hk => by cases hk)
  have hr1 := h.below hb1
  have hz := hb1.size
  clear hi hz0 hz1 hz2
  go_wp2_with (at_builtin; refine wpList_app2 _ rfl _ _ rfl w.heap.size _ [] rfl ho1 M.Bytes.nil a c l rfl hr1 hnil l rfl ?c1 hz ?_)
  case c1 => omega
  intro a2 c2 w2 ho2 hc2 hn2 hr2 hb2 _
  go_wp2
  go_ret
  exact ⟨a2, c2, rfl, ho2, hc2, hn2, hr2, hb1.trans hb2⟩
/-- The n bytes from x on. -/
def part (l : List Int) (x n : Int) : List Int := (l.drop x.toNat).take n.toNat
set_option maxHeartbeats 400000 in
theorem part_yes (a : Option Addr) (c : Nat) (l : List Int) (x n : Int) (w : World) (h : Row w a l) (hnil : a = none → c = 0) (hl : l.length ≤ 140737488351232) (hc : l.length ≤ c) (hcm : c ≤ 9223372036854775807) (hx : 0 ≤ x) (hn0 : 0 ≤ n) (hn : n ≤ (l.length : Int) - x) :
    Calls Try.prog 46 #[.slice a l.length c, .int .i64 x, .int .i64 n] w fun e w' => ∃ a' c', e = .returned (.tuple #[.slice a' (part l x n).length c', .bool true]) ∧ Fresh w w' a' c' (part l x n) := by
  have hl' : l.length ≤ 140737488355328 := by omega
  have hy : liesB l.length x n = true := by unfold liesB; simp; omega
  obtain ⟨k, rfl⟩ := Int.eq_ofNat_of_zero_le hx
  obtain ⟨j, rfl⟩ := Int.eq_ofNat_of_zero_le hn0
  obtain ⟨a2, ha2⟩ : ∃ a2, (if c = k then a else Option.map (fun x => x.add k) a) = a2 := ⟨_, rfl⟩
  have h2 : Row w a2 (part l k j) := by rw [← ha2]; exact (h.drop c k hc).take j
  have hn2 : a2 = none → c - k = 0 := by
    intro hh
    rw [← ha2] at hh
    split at hh
    · omega
    · cases a with
      | none => have := hnil rfl; omega
      | some _ => cases hh
  have hlen : (part l k j).length = j := by unfold part; simp; omega
  generalize part l k j = r at *
  have hj : j = r.length := hlen.symm
  subst hj
  clear hlen
  go_enter Try.func46, Try.ntmps46
  go_wp2_with (first
    | (go_at_call 45; refine (lies_any _ _ _ _ _ _ hl' (by omega)).mono ?_; rintro e w' ⟨rfl, rfl⟩)
    | (go_at_call 51; refine (longer_any _ _ r _ _ h2 hn2 (by omega) (by omega) (by omega)).mono ?_; rintro e w' ⟨a', c', rfl, hf⟩))
  go_ret2
  exact ⟨a', c', rfl, hf⟩
set_option maxHeartbeats 400000 in
theorem rpart_yes (a : Option Addr) (c : Nat) (l : List Int) (x n : Int) (w : World) (h : Row w a l) (hnil : a = none → c = 0) (hl : l.length ≤ 140737488351232) (hc : l.length ≤ c) (hcm : c ≤ 9223372036854775807) (hx : 0 ≤ x) (hn0 : 0 ≤ n) (hn : n ≤ (l.length : Int) - x) :
    Calls Try.prog 41 #[.slice a l.length c, .int .i64 x, .int .i64 n] w fun e w' => ∃ a' c', e = .returned (.tuple #[.slice a' (part l x n).length c', .bool true]) ∧ Fresh w w' a' c' (part l x n) := by
  obtain ⟨k, rfl⟩ := Int.eq_ofNat_of_zero_le hx
  obtain ⟨j, rfl⟩ := Int.eq_ofNat_of_zero_le hn0
  obtain ⟨a2, ha2⟩ : ∃ a2, (if c = k then a else Option.map (fun x => x.add k) a) = a2 := ⟨_, rfl⟩
  have h2 : Row w a2 (part l k j) := by rw [← ha2]; exact (h.drop c k hc).take j
  have hn2 : a2 = none → c - k = 0 := by
    intro hh
    rw [← ha2] at hh
    split at hh
    · omega
    · cases a with
      | none => have := hnil rfl; omega
      | some _ => cases hh
  have hlen : (part l k j).length = j := by unfold part; simp; omega
  generalize part l k j = r at *
  have hj : j = r.length := hlen.symm
  subst hj
  clear hlen
  go_enter Try.func41, Try.ntmps41
  go_wp2_with (at_builtin; refine wpList_app2 _ rfl _ _ rfl w.heap.size _ [] rfl (Owns.nil _ _) M.Bytes.nil a2 (c - k) r ?hx h2 hn2 r rfl ?c1 (Nat.le_refl _) ?_)
  case hx => show Value.slice a2 (k + r.length - k) (c - k) = _; rw [Nat.add_sub_cancel_left]
  case c1 => omega
  intro a3 c3 w3 ho hcc hnn hr hb _
  go_wp2
  go_ret2
  exact ⟨a3, c3, rfl, ho, hcc, hnn, hr, hb⟩
end Go.Proofs.Ytmnkdogdligckaa
