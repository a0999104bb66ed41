/- Texts joined: Ip6E -/
import Derived.Test.YtmnkdogdligckaaIp6zb13
import Derived.Deep.RegionHeld3
namespace Go.Proofs.Ytmnkdogdligckaa
open Go.RowKit
set_option linter.unusedVariables false
set_option linter.unusedSimpArgs false
/-- A slice of ints, as it is read. -/
structure RowI (w : World) (a : Option Addr) (l : List Int) : Prop where
  small : l.length ≤ 17592186044416
  cells : 0 < l.length → ∃ b off, a = some ⟨b, off, none⟩ ∧ ∀ i, i < l.length → w.cell? ⟨b, off + i, none⟩ = some (.int .i64 (l.getD i 0))
theorem RowI.below {w w' : World} {a : Option Addr} {l : List Int} (h : RowI w a l) (hb : Below w.heap.size w w') : RowI w' a l :=
  ⟨h.small, fun hl => by
    obtain ⟨b, off, ha, hc⟩ := h.cells hl
    exact ⟨b, off, ha, fun i hi => (hb.cell (World.block_lt_of_cell? w _ (hc i hi))).trans (hc i hi)⟩⟩
theorem RowI.drewN {w : World} {a : Option Addr} {l : List Int} (h : RowI w a l) (n : Nat) : RowI (w.drewN n) a l := h.below (below_drewN (Below.refl _ _) n)
theorem RowI.alloc {w : World} {a : Option Addr} {l : List Int} (h : RowI w a l) (o : Obj) : RowI (w.alloc o) a l := h.below ((Below.refl _ _).alloc (Nat.le_refl _) o)
theorem RowI.none (w : World) (a : Option Addr) : RowI w a [] := ⟨by simp, fun h => by simp at h⟩
theorem OwnsI.row {w : World} {B : Nat} {a : Option Addr} {c : Nat} {l : List Int} (h : OwnsI w B (.slice a l.length c) l) (hs : l.length ≤ 17592186044416) : RowI w a l := by
  refine ⟨hs, fun hp => ?_⟩
  have h0 := h
  obtain ⟨h1, h2⟩ := h
  rcases h2 with ⟨h3, h4⟩ | ⟨g, cap, cur, h3, h4, h5, h6, h7, h8, h9⟩
  · omega
  · simp only [Value.slice.injEq] at h3
    obtain ⟨rfl, _, rfl⟩ := h3
    refine ⟨g, 0, rfl, fun i hi => ?_⟩
    have hc := World.ownsRow.cellAt (e := 3) (size := 1) h0 i (by omega)
    rw [Nat.zero_add, hc]
    simp [hi]
theorem OwnsI.below {w w' : World} {B : Nat} {v : Value} {l : List Int} (h : OwnsI w B v l) (hb : Below w.heap.size w w') : OwnsI w' B v l := by
  obtain ⟨h1, h2⟩ := h
  refine ⟨h1, ?_⟩
  rcases h2 with h2 | ⟨g, cap, cur, h3, h4, h5, h6⟩
  · exact .inl h2
  · exact .inr ⟨g, cap, cur, h3, h4, (hb.block g (Array.getElem?_eq_some_iff.1 h5).1).trans h5, h6⟩
theorem OwnsI.le {w : World} {B B' : Nat} {v : Value} {l : List Int} (h : B' ≤ B) (o : OwnsI w B v l) : OwnsI w B' v l := by
  obtain ⟨h1, h2⟩ := o
  refine ⟨h1, ?_⟩
  rcases h2 with h2 | ⟨g, cap, cur, h3, h4, h5⟩
  · exact .inl h2
  · exact .inr ⟨g, cap, cur, h3, Nat.le_trans h h4, h5⟩
set_option maxRecDepth 100000 in
theorem eq_nil (a : Option Addr) (n c : Nat) (w : World) : (binOp .eql 22 (.slice a n c) (.slice none 0 0)).run Try.prog w = .ok (.bool a.isNone) w := by
  cases a <;> rfl
set_option maxHeartbeats 1000000 in
theorem clone_any (a : Option Addr) (c : Nat) (l : List Int) (w : World) (h : Row w a l) (hnil : a = none → c = 0) :
    Calls Try.prog 25 #[.slice a l.length c] w fun e w' => ∃ a' c', e = .returned (.slice a' l.length c') ∧ Fresh w w' a' c' l := by
  cases a with
  | none =>
    have hl : l = [] := by
      cases l with
      | nil => rfl
      | cons y l => obtain ⟨b, off, hh, _⟩ := h.cells (by simp); cases hh
    subst hl
    have hc0 := hnil rfl
    subst hc0
    have hq := eq_nil none 0 0 w
    go_enter Try.func25, Try.ntmps25
    go_wp2
    go_ret
    exact ⟨none, 0, rfl, Owns.nil _ _, Nat.le_refl _, fun _ => rfl, h, Below.refl _ _⟩
  | some x =>
    have o1 : Owns (w.alloc (.cells #[] 5)) w.heap.size (.slice (some ⟨w.heap.size, 0, none⟩) 0 0) [] := owns_new (l := []) (Nat.le_refl _) (by simp) (World.heap_new w _)
    have b1 : Below w.heap.size w (w.alloc (.cells #[] 5)) := (Below.refl _ _).alloc (Nat.le_refl _) _
    have r1 := h.alloc (.cells #[] 5)
    have hs := h.small
    have hq := eq_nil (some x) l.length c w
    go_enter Try.func25, Try.ntmps25
    go_wp2_with (at_builtin; refine wpList_app2 _ rfl _ _ rfl w.heap.size _ [] rfl o1 (M.Bytes.of (by decide)) _ c l rfl r1 (fun e => by cases e) l (List.nil_append l) (by omega) (by simp) ?_)
    intro a4 c4 w4 o4 hc4 hn4 r4 b4 _
    go_wp2
    go_ret
    exact ⟨a4, c4, rfl, o4, hc4, hn4, r4, b1.trans b4⟩
/-- What Walk answers. -/
def wS (nx : Int) (l : List Int) : St := if (wend (st0 nx l true)).1 = 0 then (wend (st0 nx l true)).2 else st0 0 [] true
def wE (nx : Int) (l : List Int) : Int := (wend (st0 nx l true)).1
set_option maxHeartbeats 1000000 in
theorem walk6_any (nx : Int) (a : Option Addr) (c : Nat) (l : List Int) (w : World) (h : Row w a l) (hc : l.length ≤ c) (hcm : c ≤ 9223372036854775807) (hnil : a = none → c = 0) :
    Calls Try.prog 10 #[.int .i64 nx, .slice a l.length c] w fun e w' => ∃ xa xc a' c', e = .returned (.tuple #[.int .i64 (wS nx l).next, .slice xa (wS nx l).ex.length xc, .slice a' (wS nx l).l.length c', .int .i64 (wE nx l)]) ∧
      Fresh w w' a' c' (wS nx l).l ∧ OwnsI w' w.heap.size (.slice xa (wS nx l).ex.length xc) (wS nx l).ex ∧ (wS nx l).ex.length ≤ 8 := by
  obtain ⟨W1, hW1⟩ : ∃ W1, w.alloc (.cells #[.int .i64 nx, .slice a l.length c, .slice none 0 0, .bool true, .bool false, .int .u32 0, .int .i64 0, .bool false] 55) = W1 := ⟨_, rfl⟩
  have S1 : SW W1 w.heap.size (st0 nx l true) (.slice a l.length c) (.slice none 0 0) := by
    rw [← hW1]
    constructor <;> simp [st0]
  have b1 : Below w.heap.size w W1 := by rw [← hW1]; exact (Below.refl _ _).alloc (Nat.le_refl _) _
  have z1 : W1.heap.size = w.heap.size + 1 := by rw [← hW1]; simp
  have RA : Hid _ := run_any w.heap.size nx l true a c w W1 S1 h (Nat.le_refl _) b1 hc hcm hnil
  have HW1 : Hid (_ = W1) := hW1
  clear hW1
  go_enter Try.func10, Try.ntmps10
  go_wp2_with fail
  rw [HW1.out]
  refine Calls.mono RA.out ?_
  rintro e W2 ⟨rfl, bel, fin⟩
  clear RA S1 HW1
  obtain ⟨g, hg⟩ : ∃ g, w.heap.size = g := ⟨_, rfl⟩
  rw [hg] at bel fin b1 z1 ⊢
  obtain ⟨T, hT⟩ : ∃ T, wend (st0 nx l true) = T := ⟨_, rfl⟩
  have eS : wS nx l = if T.1 = 0 then T.2 else st0 0 [] true := by unfold wS; rw [hT]
  have eE : wE nx l = T.1 := by unfold wE; rw [hT]
  rw [hT] at fin ⊢
  clear hT
  obtain ⟨E, t⟩ := T
  simp only at fin eS eE ⊢
  have b2 : Below g w W2 := b1.trans bel
  by_cases h0 : E = 0
  · subst h0
    obtain ⟨a2, c2, xa, xc, R⟩ := fin rfl
    rw [if_pos rfl] at eS
    have ES : Hid (wS nx l = t) := eS
    have EE : Hid (wE nx l = 0) := eE
    clear eS eE
    obtain ⟨SS, rr, rc, rcap, rnil, ro, rm, rx, rb, rf, rg⟩ := R
    have q0 := SS.c0
    have q1 := SS.c1
    have q2 := SS.c2
    have gl := SS.lt
    have r2 : Row W2 a2 t.l := rr.below (by rw [hg]; exact b2)
    have KC : Hid (∀ W, Below W2.heap.size W2 W → Calls Try.prog 25 #[.slice a2 t.l.length c2] W fun e w' => ∃ a' c', e = .returned (.slice a' t.l.length c') ∧ (w'.cell? ⟨g, 0, none⟩ = some (.int .i64 t.next) ∧ w'.cell? ⟨g, 1, none⟩ = some (.slice a2 t.l.length c2) ∧ w'.cell? ⟨g, 2, none⟩ = some (.slice xa t.ex.length xc)) ∧ Fresh W w' a' c' t.l ∧ Below W2.heap.size W2 w') := by
      intro W hW
      refine (clone_any a2 c2 t.l W (r2.below hW) rnil).mono ?_
      rintro e w' ⟨a', c', rfl, f⟩
      have hb := hW.trans (f.below.mono hW.size)
      exact ⟨a', c', rfl, ⟨kept hb q0, kept hb q1, kept hb q2⟩, f, hb⟩
    clear rr rc rcap rm rx rb SS r2
    go_wp2
    go_region_held3 (fun w'' => w''.cell? ⟨g, 0, none⟩ = some (.int .i64 t.next) ∧ w''.cell? ⟨g, 1, none⟩ = some (.slice a2 t.l.length c2) ∧ w''.cell? ⟨g, 2, none⟩ = some (.slice xa t.ex.length xc)) (go_keep) (first
      | (go_at_call 25; refine (KC.out _ (Below.refl _ _).drew).mono ?_; rintro e W8 ⟨a8, c8, rfl, ⟨q1, q2, q3⟩, f8, b8⟩))
    go_wp2
    refine bodyPost_ret (v := .tuple #[.int .i64 t.next, .slice xa t.ex.length xc, .slice a8 t.l.length c8, .int .i64 0]) (by simp [results, Try.results10, go_sem]) rfl ⟨xa, xc, a8, c8, ?_, ?_, ?_, ?_⟩
    · rw [ES.out, EE.out]
    · rw [ES.out]
      exact ⟨owns_le (by show w.heap.size ≤ W2.heap.size; exact b2.size) f8.owns, f8.room, f8.nil, f8.row, by rw [hg]; exact b2.trans (b8.mono (by omega))⟩
    · rw [ES.out]; exact (ro.below b8).le (by omega)
    · rw [ES.out]; exact rf
  · have h0' : (E != 0) = true := by simpa using h0
    rw [if_neg h0] at eS
    have ES : Hid (wS nx l = st0 0 [] true) := eS
    have EE : Hid (wE nx l = E) := eE
    clear eS eE fin
    go_wp2
    refine bodyPost_ret (v := .tuple #[.int .i64 0, .slice none 0 0, .slice none 0 0, .int .i64 E]) (by simp [results, Try.results10, go_sem]) rfl ⟨none, 0, none, 0, ?_, ?_, ?_, ?_⟩
    · rw [ES.out, EE.out]; rfl
    · rw [ES.out]
      exact ⟨Owns.nil _ _, Nat.le_refl _, fun _ => rfl, ⟨by simp [st0], M.Bytes.of (by decide), fun h => by simp [st0] at h⟩, by rw [hg]; exact b2⟩
    · rw [ES.out]; exact OwnsI.nil _ _
    · rw [ES.out]; simp [st0]
theorem drewN_add (w : World) (m k : Nat) : (w.drewN m).drewN k = w.drewN (m + k) := by
  simp [World.drewN, Nat.add_assoc]
theorem alive_walk : wE 60 [17, 0, 1, 4, 0, 0, 0, 0, 9] = 0 ∧ wS 60 [17, 0, 1, 4, 0, 0, 0, 0, 9] = ⟨17, [9], [60], true, false, 0, 0, false⟩ := by
  constructor <;> rfl
set_option maxHeartbeats 1000000 in
theorem alive6_any (w : World) : Calls Try.prog 14 #[] w fun e w' => e = .returned (.bool true) ∧ Below w.heap.size w w' := by
  have r0 := row_new w 5 [17, 0, 1, 4, 0, 0, 0, 0, 9] (by simp) (M.Bytes.of (by decide))
  have W := walk6_any 60 _ 9 _ _ r0 (by simp) (by omega) (fun e => by cases e)
  rw [alive_walk.1, alive_walk.2] at W
  have HW : Hid _ := W
  clear W
  go_enter Try.func14, Try.ntmps14
  go_wp2_with fail
  refine Calls.mono HW.out ?_
  rintro e w2 ⟨xa, xc, a', c', rfl, f, o, _⟩
  obtain ⟨bx, ox, rfl, hx⟩ := (o.row (by simp)).cells (by simp)
  obtain ⟨b', o', rfl, hb⟩ := f.row.cells (by simp)
  have x0 := hx 0 (by simp)
  have y0 := hb 0 (by simp)
  have bb : Below w.heap.size w w2 := ((Below.refl _ _).alloc (Nat.le_refl _) _).trans (f.below.mono (by simp))
  simp only [Nat.add_zero, List.getD_cons_zero] at x0 y0
  clear hx hb f o HW
  simp only [List.length_cons, List.length_nil]
  go_wp2
  go_ret
  exact ⟨rfl, bb⟩
end Go.Proofs.Ytmnkdogdligckaa
