/- Texts joined: Ip6E SgC -/
import Derived.Test.YtpjjkdgmfjhfiaaSgrR4
import Derived.Test.YtpjjkdgmfjhfiaaSgrR6
import Derived.Deep.RegionHeld3
import Derived.BigRegion
namespace Go.Proofs.Ytpjjkdgmfjhfiaa
open Go.RowKit
set_option linter.unusedVariables false
set_option linter.unusedSimpArgs false
/-- A slice of ints, as it is read. -/
structure RowI (w : World) (a : Option Addr) (l : List Int) : Prop where
  small : l.length ≤ 17592186044416
  cells : 0 < l.length → ∃ b off, a = some ⟨b, off, none⟩ ∧ ∀ i, i < l.length → w.cell? ⟨b, off + i, none⟩ = some (.int .i64 (l.getD i 0))
theorem RowI.below {w w' : World} {a : Option Addr} {l : List Int} (h : RowI w a l) (hb : Below w.heap.size w w') : RowI w' a l :=
  ⟨h.small, fun hl => by
    obtain ⟨b, off, ha, hc⟩ := h.cells hl
    exact ⟨b, off, ha, fun i hi => (hb.cell (World.block_lt_of_cell? w _ (hc i hi))).trans (hc i hi)⟩⟩
theorem RowI.drewN {w : World} {a : Option Addr} {l : List Int} (h : RowI w a l) (n : Nat) : RowI (w.drewN n) a l := h.below (below_drewN (Below.refl _ _) n)
theorem RowI.alloc {w : World} {a : Option Addr} {l : List Int} (h : RowI w a l) (o : Obj) : RowI (w.alloc o) a l := h.below ((Below.refl _ _).alloc (Nat.le_refl _) o)
theorem RowI.none (w : World) (a : Option Addr) : RowI w a [] := ⟨by simp, fun h => by simp at h⟩
theorem OwnsI.row {w : World} {B : Nat} {a : Option Addr} {c : Nat} {l : List Int} (h : OwnsI w B (.slice a l.length c) l) (hs : l.length ≤ 17592186044416) : RowI w a l := by
  refine ⟨hs, fun hp => ?_⟩
  have h0 := h
  obtain ⟨h1, h2⟩ := h
  rcases h2 with ⟨h3, h4⟩ | ⟨g, cap, cur, h3, h4, h5, h6, h7, h8, h9⟩
  · omega
  · simp only [Value.slice.injEq] at h3
    obtain ⟨rfl, _, rfl⟩ := h3
    refine ⟨g, 0, rfl, fun i hi => ?_⟩
    have hc := World.ownsRow.cellAt (e := 3) (size := 1) h0 i (by omega)
    rw [Nat.zero_add, hc]
    simp [hi]
theorem OwnsI.below {w w' : World} {B : Nat} {v : Value} {l : List Int} (h : OwnsI w B v l) (hb : Below w.heap.size w w') : OwnsI w' B v l := by
  obtain ⟨h1, h2⟩ := h
  refine ⟨h1, ?_⟩
  rcases h2 with h2 | ⟨g, cap, cur, h3, h4, h5, h6⟩
  · exact .inl h2
  · exact .inr ⟨g, cap, cur, h3, h4, (hb.block g (Array.getElem?_eq_some_iff.1 h5).1).trans h5, h6⟩
theorem OwnsI.le {w : World} {B B' : Nat} {v : Value} {l : List Int} (h : B' ≤ B) (o : OwnsI w B v l) : OwnsI w B' v l := by
  obtain ⟨h1, h2⟩ := o
  refine ⟨h1, ?_⟩
  rcases h2 with h2 | ⟨g, cap, cur, h3, h4, h5⟩
  · exact .inl h2
  · exact .inr ⟨g, cap, cur, h3, Nat.le_trans h h4, h5⟩
set_option maxRecDepth 100000 in
theorem eq_nil (a : Option Addr) (n c : Nat) (w : World) : (binOp .eql 28 (.slice a n c) (.slice none 0 0)).run Try.prog w = .ok (.bool a.isNone) w := by
  cases a <;> rfl
set_option maxHeartbeats 1000000 in
theorem clone_any (a : Option Addr) (c : Nat) (l : List Int) (w : World) (h : Row w a l) (hnil : a = none → c = 0) :
    Calls Try.prog 72 #[.slice a l.length c] w fun e w' => ∃ a' c', e = .returned (.slice a' l.length c') ∧ Fresh w w' a' c' l := by
  cases a with
  | none =>
    have hl : l = [] := by
      cases l with
      | nil => rfl
      | cons y l => obtain ⟨b, off, hh, _⟩ := h.cells (by simp); cases hh
    subst hl
    have hc0 := hnil rfl
    subst hc0
    have hq := eq_nil none 0 0 w
    go_enter Try.func72, Try.ntmps72
    go_wp2
    go_ret
    exact ⟨none, 0, rfl, Owns.nil _ _, Nat.le_refl _, fun _ => rfl, h, Below.refl _ _⟩
  | some x =>
    have o1 : Owns (w.alloc (.cells #[] 5)) w.heap.size (.slice (some ⟨w.heap.size, 0, none⟩) 0 0) [] := owns_new (l := []) (Nat.le_refl _) (by simp) (World.heap_new w _)
    have b1 : Below w.heap.size w (w.alloc (.cells #[] 5)) := (Below.refl _ _).alloc (Nat.le_refl _) _
    have r1 := h.alloc (.cells #[] 5)
    have hs := h.small
    have hq := eq_nil (some x) l.length c w
    go_enter Try.func72, Try.ntmps72
    go_wp2_with (at_builtin; refine wpList_app2 _ rfl _ _ rfl w.heap.size _ [] rfl o1 (M.Bytes.of (by decide)) _ c l rfl r1 (fun e => by cases e) l (List.nil_append l) (by omega) (by simp) ?_)
    intro a4 c4 w4 o4 hc4 hn4 r4 b4 _
    go_wp2
    go_ret
    exact ⟨a4, c4, rfl, o4, hc4, hn4, r4, b1.trans b4⟩
/-- What Walk answers. -/
def wS (nx : Int) (l : List Int) : St := if (wend (st0 nx l true)).1 = 0 then (wend (st0 nx l true)).2 else st0 0 [] true
def wE (nx : Int) (l : List Int) : Int := (wend (st0 nx l true)).1
set_option maxHeartbeats 1000000 in
theorem walk6_any (nx : Int) (a : Option Addr) (c : Nat) (l : List Int) (w : World) (h : Row w a l) (hc : l.length ≤ c) (hcm : c ≤ 9223372036854775807) (hnil : a = none → c = 0) :
    Calls Try.prog 89 #[.int .i64 nx, .slice a l.length c] w fun e w' => ∃ xa xc a' c', e = .returned (.tuple #[.int .i64 (wS nx l).next, .slice xa (wS nx l).ex.length xc, .slice a' (wS nx l).l.length c', .int .i64 (wE nx l)]) ∧
      Fresh w w' a' c' (wS nx l).l ∧ OwnsI w' w.heap.size (.slice xa (wS nx l).ex.length xc) (wS nx l).ex ∧ (wS nx l).ex.length ≤ 8 := by
  obtain ⟨W1, hW1⟩ : ∃ W1, w.alloc (.cells #[.int .i64 nx, .slice a l.length c, .slice none 0 0, .bool true, .bool false, .int .u32 0, .int .i64 0, .bool false] 114) = W1 := ⟨_, rfl⟩
  have S1 : SW W1 w.heap.size (st0 nx l true) (.slice a l.length c) (.slice none 0 0) := by
    rw [← hW1]
    constructor <;> simp [st0]
  have b1 := bel_nw hW1
  have z1 : W1.heap.size = w.heap.size + 1 := by rw [← hW1]; simp
  have RA : Hid _ := run_any w.heap.size nx l true a c w W1 S1 h (Nat.le_refl _) b1 hc hcm hnil
  have HW1 : Hid (_ = W1) := hW1
  clear hW1
  go_enter Try.func89, Try.ntmps89
  go_wp2_with fail
  rw [HW1.out]
  refine Calls.mono RA.out ?_
  rintro e W2 ⟨rfl, bel, fin⟩
  clear RA S1 HW1
  obtain ⟨g, hg⟩ : ∃ g, w.heap.size = g := ⟨_, rfl⟩
  rw [hg] at bel fin b1 z1 ⊢
  obtain ⟨T, hT⟩ : ∃ T, wend (st0 nx l true) = T := ⟨_, rfl⟩
  have eS : wS nx l = if T.1 = 0 then T.2 else st0 0 [] true := by unfold wS; rw [hT]
  have eE : wE nx l = T.1 := by unfold wE; rw [hT]
  rw [hT] at fin ⊢
  clear hT
  obtain ⟨E, t⟩ := T
  simp only at fin eS eE ⊢
  have b2 : Below g w W2 := b1.trans bel
  by_cases h0 : E = 0
  · subst h0
    obtain ⟨a2, c2, xa, xc, R⟩ := fin rfl
    rw [if_pos rfl] at eS
    have ES : Hid (wS nx l = t) := eS
    have EE : Hid (wE nx l = 0) := eE
    clear eS eE
    obtain ⟨SS, rr, rc, rcap, rnil, ro, rm, rx, rb, rf, rg⟩ := R
    have q0 := SS.c0
    have q1 := SS.c1
    have q2 := SS.c2
    have gl := SS.lt
    have r2 : Row W2 a2 t.l := rr.below (by rw [hg]; exact b2)
    have KC : Hid (∀ W, Below W2.heap.size W2 W → Calls Try.prog 72 #[.slice a2 t.l.length c2] W fun e w' => ∃ a' c', e = .returned (.slice a' t.l.length c') ∧ (w'.cell? ⟨g, 0, none⟩ = some (.int .i64 t.next) ∧ w'.cell? ⟨g, 1, none⟩ = some (.slice a2 t.l.length c2) ∧ w'.cell? ⟨g, 2, none⟩ = some (.slice xa t.ex.length xc)) ∧ Fresh W w' a' c' t.l ∧ Below W2.heap.size W2 w') := by
      intro W hW
      refine (clone_any a2 c2 t.l W (r2.below hW) rnil).mono ?_
      rintro e w' ⟨a', c', rfl, f⟩
      have hb := hW.trans (f.below.mono hW.size)
      exact ⟨a', c', rfl, ⟨kept hb q0, kept hb q1, kept hb q2⟩, f, hb⟩
    clear rr rc rcap rm rx rb SS r2
    go_wp2
    go_region_held3 (fun w'' => w''.cell? ⟨g, 0, none⟩ = some (.int .i64 t.next) ∧ w''.cell? ⟨g, 1, none⟩ = some (.slice a2 t.l.length c2) ∧ w''.cell? ⟨g, 2, none⟩ = some (.slice xa t.ex.length xc)) (go_keep) (first
      | (go_at_call 72; refine (KC.out _ (Below.refl _ _).drew).mono ?_; rintro e W8 ⟨a8, c8, rfl, ⟨q1, q2, q3⟩, f8, b8⟩))
    go_wp2
    refine bodyPost_ret (v := .tuple #[.int .i64 t.next, .slice xa t.ex.length xc, .slice a8 t.l.length c8, .int .i64 0]) (by simp [results, Try.results89, go_sem]) rfl ⟨xa, xc, a8, c8, ?_, ?_, ?_, ?_⟩
    · rw [ES.out, EE.out]
    · rw [ES.out]
      exact ⟨owns_le (by show w.heap.size ≤ W2.heap.size; exact b2.size) f8.owns, f8.room, f8.nil, f8.row, by rw [hg]; exact b2.trans (b8.mono (by omega))⟩
    · rw [ES.out]; exact (ro.below b8).le (by omega)
    · rw [ES.out]; exact rf
  · have h0' : (E != 0) = true := by simpa using h0
    rw [if_neg h0] at eS
    have ES : Hid (wS nx l = st0 0 [] true) := eS
    have EE : Hid (wE nx l = E) := eE
    clear eS eE fin
    go_wp2
    refine bodyPost_ret (v := .tuple #[.int .i64 0, .slice none 0 0, .slice none 0 0, .int .i64 E]) (by simp [results, Try.results89, go_sem]) rfl ⟨none, 0, none, 0, ?_, ?_, ?_, ?_⟩
    · rw [ES.out, EE.out]; rfl
    · rw [ES.out]
      exact ⟨Owns.nil _ _, Nat.le_refl _, fun _ => rfl, ⟨by simp [st0], M.Bytes.of (by decide), fun h => by simp [st0] at h⟩, by rw [hg]; exact b2⟩
    · rw [ES.out]; exact OwnsI.nil _ _
    · rw [ES.out]; simp [st0]
theorem drewN_add (w : World) (m k : Nat) : (w.drewN m).drewN k = w.drewN (m + k) := by
  simp [World.drewN, Nat.add_assoc]
set_option maxRecDepth 100000 in
set_option maxHeartbeats 2000000 in
theorem segAddrAt_any (a : Option Addr) (c : Nat) (l : List Int) (x n : Int) (w : World) (h : Row w a l) (hnil : a = none → c = 0) (hll : l.length ≤ 140737488351232) (hc : l.length ≤ c) (hcm : c ≤ 9223372036854775807) (hx : -9223372036854775808 ≤ x ∧ x ≤ 9223372036854775807) :
    Calls Try.prog 88 #[.slice a l.length c, .int .i64 x, .int .i64 n] w fun e w' => e = .returned (fromB (partv l x n)).1.v ∧ Below w.heap.size w w' := by
  obtain ⟨W1, hW1⟩ : ∃ W1, w.alloc (.cells #[.int .i64 0, .int .u64 0, .int .u64 0] 24) = W1 := ⟨_, rfl⟩
  have b1 := bel_nw hW1
  have B1 := blk_nw hW1
  have K : Hid _ := part_any a c l x n W1 (h.below b1) hnil hll hc hcm hx
  obtain ⟨R, hR⟩ : ∃ R, fromB (partv l x n) = R := ⟨_, rfl⟩
  have HR : Hid _ := hR
  rw [hR]
  clear hR
  obtain ⟨⟨rf, rh, rl⟩, re⟩ := R
  go_enter Try.func88, Try.ntmps88
  go_wp2_with fail
  refine Calls.mono K.out ?_
  rintro e W2 ⟨a2, c2, rfl, fr⟩
  clear K hW1
  have B2 := B1.kept fr.below
  have b2 := bel_tr b1 fr.below
  have K2' := from_any a2 c2 (partv l x n) W2 fr.row
  rw [HR.out] at K2'
  have K2 : Hid _ := K2'
  clear K2' HR
  clear fr B1 b1
  go_wp2_with fail
  refine Calls.mono K2.out ?_
  rintro e W3 ⟨rfl, b3'⟩
  have B3 := B2.kept b3'
  have b3 := bel_tr b2 b3'
  clear K2 b3' B2 b2
  obtain ⟨W4, hW4⟩ : ∃ W4, W3.alloc (.cells #[.int .i64 0, .int .u64 0, .int .u64 0] 24) = W4 := ⟨_, rfl⟩
  have B4 := blk_nw hW4
  have B4' := B3.al hW4
  have b4 := bel_al b3 hW4
  have ne : w.heap.size ≠ W3.heap.size := by have := B3.lt; omega
  have B5 := B4.set #[.int .i64 rf, .int .u64 rh, .int .u64 rl]
  have B5' := B4'.other ne #[.int .i64 rf, .int .u64 rh, .int .u64 rl]
  have b5 := below_setRow b4 (Nat.le_of_lt (Nat.lt_of_le_of_ne b3.size ne)) #[.int .i64 rf, .int .u64 rh, .int .u64 rl]
  obtain ⟨W5, hW5⟩ : ∃ W5, W4.setRow W3.heap.size #[.int .i64 rf, .int .u64 rh, .int .u64 rl] = W5 := ⟨_, rfl⟩
  rw [hW5] at B5 B5' b5
  have B6 := B5'.set #[.int .i64 rf, .int .u64 rh, .int .u64 rl]
  have b6 := below_setRow b5 (Nat.le_refl _) #[.int .i64 rf, .int .u64 rh, .int .u64 rl]
  have HW5 : Hid _ := hW5
  clear hW5 B3 b3 ne
  go_wp2_with (first
    | (refine wpList_store_row rfl _ _ _ rfl W3.heap.size #[.int .i64 rf, .int .u64 rh, .int .u64 rl] (by rfl) (by rfl) _ _ B4 (by kernel_rfl) (by rfl) (by kernel_rfl) ?_; rw [HW5.out])
    | (refine wpList_load_row rfl _ _ rfl W3.heap.size (by rfl) _ _ _ _ B5 Try.underlying24 rfl (by kernel_rfl) ?_)
    | (refine wpList_store_row rfl _ _ _ rfl w.heap.size #[.int .i64 rf, .int .u64 rh, .int .u64 rl] (by rfl) (by rfl) _ _ B5' (by kernel_rfl) (by rfl) (by kernel_rfl) ?_))
  exact ret_cell (k := 6) Try.f88 (by kernel_rfl) B6 Try.underlying24 (by kernel_rfl) (by rfl) rfl ⟨rfl, b6⟩
set_option maxRecDepth 100000 in
set_option maxHeartbeats 4000000 in
theorem ends_any (f sf sh sl df dh dl pr ho : Int) (fg : Bool) (id of : Int) (mo : Bool) (xa : Option Addr) (xn xc : Nat) (da : Option Addr) (dc : Nat) (l : List Int) (w : World) :
    Calls Try.prog 80 #[.agg (sRa f sf sh sl df dh dl pr ho fg id of mo xa xn xc da l.length dc)] w fun e w' => e = .returned (.agg (sRb f pr sf sh sl df dh dl 0 0)) ∧ Below w.heap.size w w' := by
  obtain ⟨W1, hW1⟩ : ∃ W1, w.alloc (.cells (sRa f sf sh sl df dh dl pr ho fg id of mo xa xn xc da l.length dc) 64) = W1 := ⟨_, rfl⟩
  obtain ⟨W2, hW2⟩ : ∃ W2, W1.alloc (.cells (sRb 0 0 0 0 0 0 0 0 0 0) 26) = W2 := ⟨_, rfl⟩
  have b1 := bel_nw hW1
  have b2 := bel_al b1 hW2
  have B1' := blk_nw hW1
  have B1 := B1'.al hW2
  have B2 := blk_nw hW2
  have g1 : w.heap.size < W1.heap.size := B1'.lt
  clear B1'
  have d0 := B1.cell 0 _ rfl
  have d1 := B1.cell 1 _ rfl
  have d2 := B1.cell 2 _ rfl
  have d3 := B1.cell 3 _ rfl
  have d4 := B1.cell 4 _ rfl
  have d5 := B1.cell 5 _ rfl
  have d6 := B1.cell 6 _ rfl
  have d7 := B1.cell 7 _ rfl
  have b3 := below_setRow b2 (Nat.le_of_lt g1) (sRb f pr sf sh sl df dh dl 0 0)
  have B3 := B2.set (sRb f pr sf sh sl df dh dl 0 0)
  go_enter Try.func80, Try.ntmps80
  go_wp2_with (refine wpList_store_row rfl _ _ _ rfl W1.heap.size (sRb f pr sf sh sl df dh dl 0 0) (by rfl) (by rfl) _ _ B2 (by kernel_rfl) (by rfl) (by kernel_rfl) ?_)
  exact ret_cell (k := 2) Try.f80 (by kernel_rfl) B3 Try.underlying26 (by kernel_rfl) (by rfl) rfl ⟨rfl, b3⟩
end Go.Proofs.Ytpjjkdgmfjhfiaa
