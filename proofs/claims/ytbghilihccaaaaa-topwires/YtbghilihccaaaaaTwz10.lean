/- Texts joined: Ip6E FgA FgB FgF -/
import Derived.Test.YtbghilihccaaaaaTwz9
import Derived.Deep.RegionHeld3
import Derived.Maps.OwnSet
import Derived.Maps.RangeWalk
import Derived.Maps.Ext
namespace Go.Proofs.Ytbghilihccaaaaa
open Go.RowKit
set_option linter.unusedVariables false
set_option linter.unusedSimpArgs false
/-- A slice of ints, as it is read. -/
structure RowI (w : World) (a : Option Addr) (l : List Int) : Prop where
  small : l.length ≤ 17592186044416
  cells : 0 < l.length → ∃ b off, a = some ⟨b, off, none⟩ ∧ ∀ i, i < l.length → w.cell? ⟨b, off + i, none⟩ = some (.int .i64 (l.getD i 0))
theorem RowI.below {w w' : World} {a : Option Addr} {l : List Int} (h : RowI w a l) (hb : Below w.heap.size w w') : RowI w' a l :=
  ⟨h.small, fun hl => by
    obtain ⟨b, off, ha, hc⟩ := h.cells hl
    exact ⟨b, off, ha, fun i hi => (hb.cell (World.block_lt_of_cell? w _ (hc i hi))).trans (hc i hi)⟩⟩
theorem RowI.drewN {w : World} {a : Option Addr} {l : List Int} (h : RowI w a l) (n : Nat) : RowI (w.drewN n) a l := h.below (below_drewN (Below.refl _ _) n)
theorem RowI.alloc {w : World} {a : Option Addr} {l : List Int} (h : RowI w a l) (o : Obj) : RowI (w.alloc o) a l := h.below ((Below.refl _ _).alloc (Nat.le_refl _) o)
theorem RowI.none (w : World) (a : Option Addr) : RowI w a [] := ⟨by simp, fun h => by simp at h⟩
theorem OwnsI.row {w : World} {B : Nat} {a : Option Addr} {c : Nat} {l : List Int} (h : OwnsI w B (.slice a l.length c) l) (hs : l.length ≤ 17592186044416) : RowI w a l := by
  refine ⟨hs, fun hp => ?_⟩
  have h0 := h
  obtain ⟨h1, h2⟩ := h
  rcases h2 with ⟨h3, h4⟩ | ⟨g, cap, cur, h3, h4, h5, h6, h7, h8, h9⟩
  · omega
  · simp only [Value.slice.injEq] at h3
    obtain ⟨rfl, _, rfl⟩ := h3
    refine ⟨g, 0, rfl, fun i hi => ?_⟩
    have hc := World.ownsRow.cellAt (e := 3) (size := 1) h0 i (by omega)
    rw [Nat.zero_add, hc]
    simp [hi]
theorem OwnsI.below {w w' : World} {B : Nat} {v : Value} {l : List Int} (h : OwnsI w B v l) (hb : Below w.heap.size w w') : OwnsI w' B v l := by
  obtain ⟨h1, h2⟩ := h
  refine ⟨h1, ?_⟩
  rcases h2 with h2 | ⟨g, cap, cur, h3, h4, h5, h6⟩
  · exact .inl h2
  · exact .inr ⟨g, cap, cur, h3, h4, (hb.block g (Array.getElem?_eq_some_iff.1 h5).1).trans h5, h6⟩
theorem OwnsI.le {w : World} {B B' : Nat} {v : Value} {l : List Int} (h : B' ≤ B) (o : OwnsI w B v l) : OwnsI w B' v l := by
  obtain ⟨h1, h2⟩ := o
  refine ⟨h1, ?_⟩
  rcases h2 with h2 | ⟨g, cap, cur, h3, h4, h5⟩
  · exact .inl h2
  · exact .inr ⟨g, cap, cur, h3, Nat.le_trans h h4, h5⟩
set_option maxRecDepth 100000 in
theorem eq_nil (a : Option Addr) (n c : Nat) (w : World) : (binOp .eql 40 (.slice a n c) (.slice none 0 0)).run Try.prog w = .ok (.bool a.isNone) w := by
  cases a <;> rfl
set_option maxHeartbeats 1000000 in
theorem clone_any (a : Option Addr) (c : Nat) (l : List Int) (w : World) (h : Row w a l) (hnil : a = none → c = 0) :
    Calls Try.prog 32 #[.slice a l.length c] w fun e w' => ∃ a' c', e = .returned (.slice a' l.length c') ∧ Fresh w w' a' c' l := by
  cases a with
  | none =>
    have hl : l = [] := by
      cases l with
      | nil => rfl
      | cons y l => obtain ⟨b, off, hh, _⟩ := h.cells (by simp); cases hh
    subst hl
    have hc0 := hnil rfl
    subst hc0
    have hq := eq_nil none 0 0 w
    go_enter Try.func32, Try.ntmps32
    go_wp2
    go_ret
    exact ⟨none, 0, rfl, Owns.nil _ _, Nat.le_refl _, fun _ => rfl, h, Below.refl _ _⟩
  | some x =>
    have o1 : Owns (w.alloc (.cells #[] 5)) w.heap.size (.slice (some ⟨w.heap.size, 0, none⟩) 0 0) [] := owns_new (l := []) (Nat.le_refl _) (by simp) (World.heap_new w _)
    have b1 : Below w.heap.size w (w.alloc (.cells #[] 5)) := (Below.refl _ _).alloc (Nat.le_refl _) _
    have r1 := h.alloc (.cells #[] 5)
    have hs := h.small
    have hq := eq_nil (some x) l.length c w
    go_enter Try.func32, Try.ntmps32
    go_wp2_with (at_builtin; refine wpList_app2 _ rfl _ _ rfl w.heap.size _ [] rfl o1 (M.Bytes.of (by decide)) _ c l rfl r1 (fun e => by cases e) l (List.nil_append l) (by omega) (by simp) ?_)
    intro a4 c4 w4 o4 hc4 hn4 r4 b4 _
    go_wp2
    go_ret
    exact ⟨a4, c4, rfl, o4, hc4, hn4, r4, b1.trans b4⟩
/-- What Walk answers. -/
def wS (nx : Int) (l : List Int) : St := if (wend (st0 nx l true)).1 = 0 then (wend (st0 nx l true)).2 else st0 0 [] true
def wE (nx : Int) (l : List Int) : Int := (wend (st0 nx l true)).1
set_option maxHeartbeats 1000000 in
theorem walk6_any (nx : Int) (a : Option Addr) (c : Nat) (l : List Int) (w : World) (h : Row w a l) (hc : l.length ≤ c) (hcm : c ≤ 9223372036854775807) (hnil : a = none → c = 0) :
    Calls Try.prog 90 #[.int .i64 nx, .slice a l.length c] w fun e w' => ∃ xa xc a' c', e = .returned (.tuple #[.int .i64 (wS nx l).next, .slice xa (wS nx l).ex.length xc, .slice a' (wS nx l).l.length c', .int .i64 (wE nx l)]) ∧
      Fresh w w' a' c' (wS nx l).l ∧ OwnsI w' w.heap.size (.slice xa (wS nx l).ex.length xc) (wS nx l).ex ∧ (wS nx l).ex.length ≤ 8 := by
  obtain ⟨W1, hW1⟩ : ∃ W1, w.alloc (.cells #[.int .i64 nx, .slice a l.length c, .slice none 0 0, .bool true, .bool false, .int .u32 0, .int .i64 0, .bool false] 113) = W1 := ⟨_, rfl⟩
  have S1 : SW W1 w.heap.size (st0 nx l true) (.slice a l.length c) (.slice none 0 0) := by
    rw [← hW1]
    constructor <;> simp [st0]
  have b1 : Below w.heap.size w W1 := by rw [← hW1]; exact (Below.refl _ _).alloc (Nat.le_refl _) _
  have z1 : W1.heap.size = w.heap.size + 1 := by rw [← hW1]; simp
  have RA : Hid _ := run_any w.heap.size nx l true a c w W1 S1 h (Nat.le_refl _) b1 hc hcm hnil
  have HW1 : Hid (_ = W1) := hW1
  clear hW1
  go_enter Try.func90, Try.ntmps90
  go_wp2_with fail
  rw [HW1.out]
  refine Calls.mono RA.out ?_
  rintro e W2 ⟨rfl, bel, fin⟩
  clear RA S1 HW1
  obtain ⟨g, hg⟩ : ∃ g, w.heap.size = g := ⟨_, rfl⟩
  rw [hg] at bel fin b1 z1 ⊢
  obtain ⟨T, hT⟩ : ∃ T, wend (st0 nx l true) = T := ⟨_, rfl⟩
  have eS : wS nx l = if T.1 = 0 then T.2 else st0 0 [] true := by unfold wS; rw [hT]
  have eE : wE nx l = T.1 := by unfold wE; rw [hT]
  rw [hT] at fin ⊢
  clear hT
  obtain ⟨E, t⟩ := T
  simp only at fin eS eE ⊢
  have b2 : Below g w W2 := b1.trans bel
  by_cases h0 : E = 0
  · subst h0
    obtain ⟨a2, c2, xa, xc, R⟩ := fin rfl
    rw [if_pos rfl] at eS
    have ES : Hid (wS nx l = t) := eS
    have EE : Hid (wE nx l = 0) := eE
    clear eS eE
    obtain ⟨SS, rr, rc, rcap, rnil, ro, rm, rx, rb, rf, rg⟩ := R
    have q0 := SS.c0
    have q1 := SS.c1
    have q2 := SS.c2
    have gl := SS.lt
    have r2 : Row W2 a2 t.l := rr.below (by rw [hg]; exact b2)
    have KC : Hid (∀ W, Below W2.heap.size W2 W → Calls Try.prog 32 #[.slice a2 t.l.length c2] W fun e w' => ∃ a' c', e = .returned (.slice a' t.l.length c') ∧ (w'.cell? ⟨g, 0, none⟩ = some (.int .i64 t.next) ∧ w'.cell? ⟨g, 1, none⟩ = some (.slice a2 t.l.length c2) ∧ w'.cell? ⟨g, 2, none⟩ = some (.slice xa t.ex.length xc)) ∧ Fresh W w' a' c' t.l ∧ Below W2.heap.size W2 w') := by
      intro W hW
      refine (clone_any a2 c2 t.l W (r2.below hW) rnil).mono ?_
      rintro e w' ⟨a', c', rfl, f⟩
      have hb := hW.trans (f.below.mono hW.size)
      exact ⟨a', c', rfl, ⟨kept hb q0, kept hb q1, kept hb q2⟩, f, hb⟩
    clear rr rc rcap rm rx rb SS r2
    go_wp2
    go_region_held3 (fun w'' => w''.cell? ⟨g, 0, none⟩ = some (.int .i64 t.next) ∧ w''.cell? ⟨g, 1, none⟩ = some (.slice a2 t.l.length c2) ∧ w''.cell? ⟨g, 2, none⟩ = some (.slice xa t.ex.length xc)) (go_keep) (first
      | (go_at_call 32; refine (KC.out _ (Below.refl _ _).drew).mono ?_; rintro e W8 ⟨a8, c8, rfl, ⟨q1, q2, q3⟩, f8, b8⟩))
    go_wp2
    refine bodyPost_ret (v := .tuple #[.int .i64 t.next, .slice xa t.ex.length xc, .slice a8 t.l.length c8, .int .i64 0]) (by simp [results, Try.results90, go_sem]) rfl ⟨xa, xc, a8, c8, ?_, ?_, ?_, ?_⟩
    · rw [ES.out, EE.out]
    · rw [ES.out]
      exact ⟨owns_le (by show w.heap.size ≤ W2.heap.size; exact b2.size) f8.owns, f8.room, f8.nil, f8.row, by rw [hg]; exact b2.trans (b8.mono (by omega))⟩
    · rw [ES.out]; exact (ro.below b8).le (by omega)
    · rw [ES.out]; exact rf
  · have h0' : (E != 0) = true := by simpa using h0
    rw [if_neg h0] at eS
    have ES : Hid (wS nx l = st0 0 [] true) := eS
    have EE : Hid (wE nx l = E) := eE
    clear eS eE fin
    go_wp2
    refine bodyPost_ret (v := .tuple #[.int .i64 0, .slice none 0 0, .slice none 0 0, .int .i64 E]) (by simp [results, Try.results90, go_sem]) rfl ⟨none, 0, none, 0, ?_, ?_, ?_, ?_⟩
    · rw [ES.out, EE.out]; rfl
    · rw [ES.out]
      exact ⟨Owns.nil _ _, Nat.le_refl _, fun _ => rfl, ⟨by simp [st0], M.Bytes.of (by decide), fun h => by simp [st0] at h⟩, by rw [hg]; exact b2⟩
    · rw [ES.out]; exact OwnsI.nil _ _
    · rw [ES.out]; simp [st0]
/-- A piece, and where its bytes lie. -/
structure Pc where
  off : Int
  da : Option Addr
  dc : Nat
  data : List Int
abbrev Pc.v (p : Pc) : Array Value := #[.int .i64 p.off, .slice p.da p.data.length p.dc]
def pcells (ps : List Pc) : List Value := ps.flatMap fun p => [.int .i64 p.off, .slice p.da p.data.length p.dc]
/-- The packet at the place 0. -/
structure Hd where
  fam : Int
  s : Ad
  d : Ad
  pr : Int
  ho : Int
  xa : Option Addr
  xc : Nat
  X : List Int
/-- A datagram. -/
structure Gm where
  ends : Int
  dead : Bool
  hd : Hd
  pa : Option Addr
  pc : Nat
  ps : List Pc
  size : Int
  reach : Int
  last : Bool
abbrev Gm.v (g : Gm) : Array Value :=
  #[.int .i64 g.ends, .bool g.dead, .int .i64 g.hd.fam, .int .i64 g.hd.s.fam, .int .u64 g.hd.s.hi, .int .u64 g.hd.s.lo, .int .i64 g.hd.d.fam, .int .u64 g.hd.d.hi, .int .u64 g.hd.d.lo, .int .i64 g.hd.pr, .int .i64 g.hd.ho, .bool false, .int .u32 0, .int .i64 0, .bool false, .slice g.hd.xa g.hd.X.length g.hd.xc, .slice none 0 0,
    .slice g.pa g.ps.length g.pc, .int .i64 g.size, .int .i64 g.reach, .bool g.last]
/-- A datagram's pieces and its header's list, in memory. -/
structure GmR (w : World) (g : Gm) : Prop where
  row : w.ownsRow 0 117 2 (.slice g.pa g.ps.length g.pc) g.ps.length (pcells g.ps)
  each : ∀ p ∈ g.ps, Row w p.da p.data ∧ p.data.length ≤ p.dc ∧ (p.da = none → p.dc = 0)
  exts : RowI w g.hd.xa g.hd.X
  few : g.ps.length ≤ 65535
theorem pcells_get : ∀ (ps : List Pc) (i : Nat) (p : Pc), ps[i]? = some p → (pcells ps)[2 * i]? = some (.int .i64 p.off) ∧ (pcells ps)[2 * i + 1]? = some (.slice p.da p.data.length p.dc)
  | [], i, p, h => by simp at h
  | q :: r, 0, p, h => by
    obtain rfl : q = p := by simpa using h
    exact ⟨rfl, rfl⟩
  | q :: r, i + 1, p, h => by
    have ih := pcells_get r i p (by simpa using h)
    have e : pcells (q :: r) = [.int .i64 q.off, .slice q.da q.data.length q.dc] ++ pcells r := rfl
    rw [e]
    refine ⟨?_, ?_⟩
    · rw [List.getElem?_append_right (by simp; omega)]
      show (pcells r)[2 * (i + 1) - 2]? = _
      rw [show 2 * (i + 1) - 2 = 2 * i by omega]
      exact ih.1
    · rw [List.getElem?_append_right (by simp; omega)]
      show (pcells r)[2 * (i + 1) + 1 - 2]? = _
      rw [show 2 * (i + 1) + 1 - 2 = 2 * i + 1 by omega]
      exact ih.2
/-- Where the pieces lie, cell by cell. -/
theorem GmR.cells {w : World} {g : Gm} (h : GmR w g) (hp : 0 < g.ps.length) : ∃ b, g.pa = some ⟨b, 0, none⟩ ∧ b < w.heap.size ∧ ∀ i p, g.ps[i]? = some p → w.cell? ⟨b, 2 * i, none⟩ = some (.int .i64 p.off) ∧ w.cell? ⟨b, 2 * i + 1, none⟩ = some (.slice p.da p.data.length p.dc) := by
  obtain ⟨hl, hr⟩ := h.row
  rcases hr with ⟨_, h0⟩ | ⟨b, cap, cur, hv, _, hb, hn, hcm, hcs, hx⟩
  · omega
  · have hpa : g.pa = some ⟨b, 0, none⟩ := by
      simp only [Value.slice.injEq] at hv
      exact hv.1
    refine ⟨b, hpa, (Array.getElem?_eq_some_iff.1 hb).1, fun i p hi => ?_⟩
    have hlt : i < g.ps.length := (List.getElem?_eq_some_iff.1 hi).1
    have hg := pcells_get g.ps i p hi
    have hc : ∀ j v, (pcells g.ps)[j]? = some v → w.cell? ⟨b, j, none⟩ = some v := fun j v hj => by
      rw [← hx, List.getElem?_take] at hj
      split at hj
      · exact Blk.cell (show Blk w b 117 cur from hb) j v (by simpa using hj)
      · cases hj
    exact ⟨hc _ _ hg.1, hc _ _ hg.2⟩
theorem wpList_buildF {ops : Array Oper} {rest : List Oper} {o : Oper} {ac : Act} {Q : Exit → Act → World → Prop} (w : World) (hgd : o.guard = none) (t : TypeId) (parts : Array (Nat × Operand)) (ho : o.op = Op.build t parts)
    (vs : Array (Nat × Value)) (hv : parts.map (fun p => (p.1, ac.eval p.2)) = vs) (r : Value) (hrun : (Instr.build t vs).run Try.prog w = .ok r w) (h : wpList Try.prog ops Q rest (ac.put o.dst r) w) : wpList Try.prog ops Q (o :: rest) ac w := by
  refine wpList_plain hgd fun K hK => ?_
  unfold Oper.wp
  subst hv
  simp [execOp, ho, hrun, Result.andThen]
  exact hK _ _ h
set_option maxRecDepth 100000 in
set_option maxHeartbeats 4000000 in
theorem isMade_at (g : Nat) (m : Bool) (w : World) (h : w.cell? ⟨g, 0, none⟩ = some (.bool m)) : Calls Try.prog 29 #[.pointer (some ⟨g, 0, none⟩)] w fun e w' => e = .returned (.bool m) ∧ w' = w := by
  go_enter Try.func29, Try.ntmps29
  go_wp2
  go_ret
  exact ⟨rfl, rfl⟩
set_option maxRecDepth 100000 in
set_option maxHeartbeats 4000000 in
theorem fwhole_any (g : Gm) (w : World) : Calls Try.prog 47 #[.agg g.v] w fun e w' => e = .returned (.bool (g.last && (g.size == g.reach))) ∧ Below w.heap.size w w' := by
  obtain ⟨W1, hW1⟩ : ∃ W, w.alloc (.cells g.v 75) = W := ⟨_, rfl⟩
  have b1 := bel_nw hW1
  have P1 := blk_nw hW1
  obtain ⟨lst, hl⟩ : ∃ l, g.last = l := ⟨_, rfl⟩
  have d18 := P1.cell 18 (.int .i64 g.size) rfl
  have d19 := P1.cell 19 (.int .i64 g.reach) rfl
  have d20 := P1.cell 20 (.bool g.last) rfl
  rw [hl] at d20 ⊢
  clear P1 hl
  go_enter Try.func47, Try.ntmps47
  cases lst
  all_goals
    go_wp2
    go_ret
    exact ⟨rfl, b1⟩
set_option maxRecDepth 100000 in
set_option maxHeartbeats 4000000 in
theorem rightEnd_any (fam f h l : Int) (w : World) : Calls Try.prog 43 #[.int .i64 fam, .agg #[.int .i64 f, .int .u64 h, .int .u64 l]] w fun e w' => e = .returned (.bool (Ad.right ⟨f, h, l⟩ && (f == fam))) ∧ Below w.heap.size w w' := by
  obtain ⟨W1, hW1⟩ : ∃ W, w.alloc (.cells #[.int .i64 f, .int .u64 h, .int .u64 l] 37) = W := ⟨_, rfl⟩
  have b1 := bel_nw hW1
  have P1 := blk_nw hW1
  obtain ⟨r, hr⟩ : ∃ r, Ad.right ⟨f, h, l⟩ = r := ⟨_, rfl⟩
  have KR : Hid (∀ W, Calls Try.prog 71 #[.agg #[.int .i64 f, .int .u64 h, .int .u64 l]] W fun e w' => e = .returned (.bool r) ∧ Below W.heap.size W w') := fun W => by
    rw [← hr]
    exact Calls.mono (right_any f h l W) (by rintro e w' ⟨rfl, rfl⟩; exact ⟨rfl, (Below.refl _ _).alloc (Nat.le_refl _) _⟩)
  rw [hr]
  clear hr
  go_enter Try.func43, Try.ntmps43
  go_wp2_with (refine wpList_load_row rfl _ _ rfl w.heap.size (by rfl) _ _ _ _ P1 Try.underlying37 rfl (by kernel_rfl) ?_)
  refine Calls.mono (KR.out _) ?_
  rintro e W2 ⟨rfl, bb⟩
  have d0 := (P1.kept bb).cell 0 (.int .i64 f) rfl
  have b2 := bel_tr b1 bb
  clear KR bb P1 b1 hW1
  cases r
  all_goals
    go_wp2
    go_ret
    exact ⟨rfl, b2⟩
set_option maxRecDepth 100000 in
set_option maxHeartbeats 4000000 in
theorem fBytes_at (g : Nat) (by_ : Int) (w : World) (h : w.cell? ⟨g, 0, none⟩ = some (.bool true)) (h' : w.cell? ⟨g, 5, none⟩ = some (.int .i64 by_)) : Calls Try.prog 21 #[.pointer (some ⟨g, 0, none⟩)] w fun e w' => e = .returned (.int .i64 by_) ∧ w' = w := by
  have K := isMade_at g true w h
  go_enter Try.func21, Try.ntmps21
  go_wp2_with fail
  refine Calls.mono K ?_
  rintro e w' ⟨rfl, rfl⟩
  go_wp2
  go_ret
  exact ⟨rfl, rfl⟩
set_option maxRecDepth 100000 in
set_option maxHeartbeats 4000000 in
theorem fNow_at (g : Nat) (nw : Int) (w : World) (h : w.cell? ⟨g, 0, none⟩ = some (.bool true)) (h' : w.cell? ⟨g, 4, none⟩ = some (.int .i64 nw)) : Calls Try.prog 23 #[.pointer (some ⟨g, 0, none⟩)] w fun e w' => e = .returned (.int .i64 nw) ∧ w' = w := by
  have K := isMade_at g true w h
  go_enter Try.func23, Try.ntmps23
  go_wp2_with fail
  refine Calls.mono K ?_
  rintro e w' ⟨rfl, rfl⟩
  go_wp2
  go_ret
  exact ⟨rfl, rfl⟩
/-- Does a piece share a byte with what lies from of to en? -/
def shareB (of en : Int) (q : Pc) : Bool := decide (of < q.off + q.data.length) && decide (q.off < en)
/-- A datagram's numbers. -/
structure GmN (g : Gm) : Prop where
  off : ∀ p ∈ g.ps, 0 ≤ p.off ∧ p.off ≤ 65528 ∧ p.data.length ≤ 65535
  size : 0 ≤ g.size ∧ g.size ≤ 1048576
  reach : 0 ≤ g.reach ∧ g.reach ≤ 65535
theorem ownsRow_below {w w' : World} {B : Nat} {e : TypeId} {k n : Nat} {v : Value} {xs : List Value} (h : w.ownsRow B e k v n xs) (hb : Below w.heap.size w w') : w'.ownsRow B e k v n xs := by
  obtain ⟨h1, h2⟩ := h
  refine ⟨h1, ?_⟩
  rcases h2 with h2 | ⟨g, cap, cur, hv, hg, hh, r⟩
  · exact Or.inl h2
  · exact Or.inr ⟨g, cap, cur, hv, hg, (hb.block g (Array.getElem?_eq_some_iff.1 hh).1).trans hh, r⟩
theorem GmR.below {w w' : World} {g : Gm} (h : GmR w g) (hb : Below w.heap.size w w') : GmR w' g :=
  ⟨ownsRow_below h.row hb, fun p hp => ⟨(h.each p hp).1.below hb, (h.each p hp).2⟩, h.exts.below hb, h.few⟩
set_option maxRecDepth 100000 in
set_option maxHeartbeats 4000000 in
theorem share_any (q : Pc) (gp ge : Nat) (of en : Int) (w : World) (h7 : w.cell? ⟨gp, 11, none⟩ = some (.int .i64 of)) (he : w.cell? ⟨ge, 0, none⟩ = some (.int .i64 en)) (q0 : 0 ≤ q.off) (q1 : q.off ≤ 65528) (ql : q.data.length ≤ 65535) :
    Calls Try.prog 72 #[.agg q.v, .pointer (some ⟨gp, 0, none⟩), .pointer (some ⟨ge, 0, none⟩)] w fun e w' => e = .returned (.bool (shareB of en q)) ∧ Below w.heap.size w w' := by
  obtain ⟨W1, hW1⟩ : ∃ W, w.alloc (.cells q.v 117) = W := ⟨_, rfl⟩
  have b1 := bel_nw hW1
  have P1 := blk_nw hW1
  have d0 := P1.cell 0 (.int .i64 q.off) rfl
  have d1 := P1.cell 1 (.slice q.da q.data.length q.dc) rfl
  have e7 := kept b1 h7
  have ee := kept b1 he
  have wq : IntKind.i64.wrap (q.off + (q.data.length : Int)) = q.off + (q.data.length : Int) := wraps_i64 _ (by omega) (by omega)
  unfold shareB
  obtain ⟨S, hS⟩ : ∃ s, q.off + (q.data.length : Int) = s := ⟨_, rfl⟩
  have wS : IntKind.i64.wrap (q.off + (q.data.length : Int)) = S := by rw [wq, hS]
  rw [hS]
  clear P1 h7 he wq hS
  go_enter Try.func72, Try.ntmps72
  by_cases c1 : of < S
  · rw [decide_eq_true c1]
    go_wp2
    all_goals go_ret
    all_goals exact ⟨by simp_all, b1⟩
  · rw [decide_eq_false c1]
    go_wp2
    all_goals go_ret
    all_goals exact ⟨by simp_all, b1⟩
end Go.Proofs.Ytbghilihccaaaaa
