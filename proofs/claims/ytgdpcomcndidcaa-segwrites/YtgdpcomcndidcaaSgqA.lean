/- Segments: words, blocks, ports, the pseudo header, ways. -/
import Derived.Test.YtgdpcomcndidcaaByt
import Derived.Test.YtgdpcomcndidcaaFrm
import Derived.Test.YtgdpcomcndidcaaAnys
import Derived.Test.YtgdpcomcndidcaaPuts
import Derived.Test.YtgdpcomcndidcaaBack
import Derived.Deep.WholeRow
import Derived.BigRegion
import Derived.Deep.RegionHeld3
import Derived.Test.YtgdpcomcndidcaaRoom
import Derived.Test.YtgdpcomcndidcaaIp4G
import Derived.Test.YtgdpcomcndidcaaIp6E
namespace Go.Proofs.Ytgdpcomcndidcaa
open Go.RowKit
set_option linter.unusedVariables false
set_option linter.unusedSimpArgs false

/-- May two addresses be, and are they of a family? -/
def endsB (f : Int) (s d : Ad) : Bool := s.right && (d.right && (s.fam == f && d.fam == f))
theorem endsB_iff (f : Int) (s d : Ad) : endsB f s d = true ↔ s.right = true ∧ d.right = true ∧ s.fam = f ∧ d.fam = f := by simp [endsB]
/-- The pseudo header's bytes. -/
def pseudoL (s d : Ad) (pr sz : Int) : List Int :=
  if s.fam = 4 then put16 (s.bytes ++ d.bytes ++ [0, pr % 256]) sz else put32 (s.bytes ++ d.bytes) (sz % 4294967296) ++ [0, 0, 0, pr % 256]
def pseudo (s d : Ad) (pr sz : Int) : List Int := if endsB s.fam s d = true then pseudoL s d pr sz else []
def isErr (f k : Int) : Bool := if f = 4 then (k == 3 || k == 11 || k == 12) else (f == 6 && (decide (1 ≤ k) && decide (k ≤ 4)))
def isEcho (f k : Int) : Bool := if f = 4 then (k == 8 || k == 0) else (k == 128 || k == 129)
def icmpOf (f : Int) : Int := if f = 4 then 1 else 58
/-- What is summed ahead. -/
def ahead (s d : Ad) (pr sz : Int) : List Int := if pr = 1 then [] else pseudo s d pr sz
/-- The ports that the bytes tell. -/
def portsOf (f pr : Int) (l : List Int) : Int × Int :=
  if pr = 6 then (u16v l 0, u16v l 2) else if pr = 17 then (u16v l 0, u16v l 2) else if pr = icmpOf f then (if isEcho f (l.getD 0 0) = true then (u16v l 4, u16v l 4) else (0, 0)) else (0, 0)
end Go.Proofs.Ytgdpcomcndidcaa

namespace Go.Proofs.Ytgdpcomcndidcaa
open Go.RowKit
set_option linter.unusedVariables false
set_option linter.unusedSimpArgs false

theorem retB {a b : Bool} (h : a = b) : Ending.returned (.bool a) = .returned (.bool b) := by rw [h]

set_option maxRecDepth 100000 in
set_option maxHeartbeats 2000000 in
theorem ofFamily_any (f sf sh sl df dh dl : Int) (w : World) :
    Calls Try.prog 23 #[.int .i64 f, .agg #[.int .i64 sf, .int .u64 sh, .int .u64 sl], .agg #[.int .i64 df, .int .u64 dh, .int .u64 dl]] w fun e w' => e = .returned (.bool (endsB f ⟨sf, sh, sl⟩ ⟨df, dh, dl⟩)) ∧ Below w.heap.size w w' := by
  obtain ⟨W1, hW1⟩ : ∃ W1, w.alloc (.cells #[.int .i64 sf, .int .u64 sh, .int .u64 sl] 24) = W1 := ⟨_, rfl⟩
  obtain ⟨W2, hW2⟩ : ∃ W2, W1.alloc (.cells #[.int .i64 df, .int .u64 dh, .int .u64 dl] 24) = W2 := ⟨_, rfl⟩
  have b1 : Below w.heap.size w W1 := by rw [← hW1]; exact (Below.refl _ _).alloc (Nat.le_refl _) _
  have b2 : Below w.heap.size w W2 := by rw [← hW2]; exact b1.alloc b1.size _
  have c0 : W2.cell? ⟨w.heap.size, 0, none⟩ = some (.int .i64 sf) := by rw [← hW2]; exact kept_alloc (Below.refl _ _) _ (by rw [← hW1]; simp)
  have c1 : W2.cell? ⟨w.heap.size, 1, none⟩ = some (.int .u64 sh) := by rw [← hW2]; exact kept_alloc (Below.refl _ _) _ (by rw [← hW1]; simp)
  have c2 : W2.cell? ⟨w.heap.size, 2, none⟩ = some (.int .u64 sl) := by rw [← hW2]; exact kept_alloc (Below.refl _ _) _ (by rw [← hW1]; simp)
  have d0 : W2.cell? ⟨W1.heap.size, 0, none⟩ = some (.int .i64 df) := by rw [← hW2]; simp
  have d1 : W2.cell? ⟨W1.heap.size, 1, none⟩ = some (.int .u64 dh) := by rw [← hW2]; simp
  have d2 : W2.cell? ⟨W1.heap.size, 2, none⟩ = some (.int .u64 dl) := by rw [← hW2]; simp
  have K1 : Hid (Calls Try.prog 48 #[.agg #[.int .i64 sf, .int .u64 sh, .int .u64 sl]] W2 _) := right_any sf sh sl W2
  have K2 : Hid (∀ W, Calls Try.prog 48 #[.agg #[.int .i64 df, .int .u64 dh, .int .u64 dl]] W _) := fun W => right_any df dh dl W
  have E : Hid (endsB f ⟨sf, sh, sl⟩ ⟨df, dh, dl⟩ = (Ad.right ⟨sf, sh, sl⟩ && (Ad.right ⟨df, dh, dl⟩ && (sf == f && df == f)))) := rfl
  generalize Ad.right ⟨sf, sh, sl⟩ = R1 at *
  generalize Ad.right ⟨df, dh, dl⟩ = R2 at *
  generalize endsB f ⟨sf, sh, sl⟩ ⟨df, dh, dl⟩ = RR at *
  go_enter Try.func23, Try.ntmps23
  go_wp2_with fail
  refine Calls.mono K1.out ?_
  rintro e W3 ⟨rfl, hW3⟩
  have b3' : Below W2.heap.size W2 W3 := by rw [hW3]; exact (Below.refl _ _).alloc (Nat.le_refl _) _
  have b3 : Below w.heap.size w W3 := b2.trans (b3'.mono b2.size)
  have c0' := kept b3' c0
  have d0' := kept b3' d0
  have d1' := kept b3' d1
  have d2' := kept b3' d2
  clear K1 hW3 hW1 hW2 c0 c1 c2 d0 d1 d2
  cases R1 with
  | false =>
    go_wp2
    go_ret
    exact ⟨retB (by rw [E.out]; simp), b3⟩
  | true =>
    go_wp2_with fail
    refine Calls.mono (K2.out _) ?_
    rintro e W4 ⟨rfl, hW4⟩
    have b4' : Below W3.heap.size W3 W4 := by rw [hW4]; exact (Below.refl _ _).alloc (Nat.le_refl _) _
    have b4 : Below w.heap.size w W4 := b3.trans (b4'.mono b3.size)
    have c0'' := kept b4' c0'
    have d0'' := kept b4' d0'
    clear K2 hW4 c0' d0' d1' d2'
    cases R2 with
    | false =>
      go_wp2
      go_ret
      exact ⟨retB (by rw [E.out]; simp), b4⟩
    | true =>
      go_wp2_with fail
      all_goals (go_ret; exact ⟨retB (by rw [E.out]; simp [*]), b4⟩)

theorem isError_any (f k : Int) (w : World) : Calls Try.prog 13 #[.int .i64 f, .int .i64 k] w fun e w' => e = .returned (.bool (isErr f k)) ∧ w' = w := by
  go_enter Try.func13, Try.ntmps13
  go_wp2_with fail
  all_goals (go_ret; exact ⟨retB (by unfold isErr; simp_all <;> omega), rfl⟩)
theorem isEcho_any (f k : Int) (w : World) : Calls Try.prog 64 #[.int .i64 f, .int .i64 k] w fun e w' => e = .returned (.bool (isEcho f k)) ∧ w' = w := by
  go_enter Try.func64, Try.ntmps64
  go_wp2_with fail
  all_goals (go_ret; exact ⟨retB (by unfold isEcho; simp_all <;> omega), rfl⟩)
theorem icmpOf_any (f : Int) (w : World) : Calls Try.prog 57 #[.int .i64 f] w fun e w' => e = .returned (.int .i64 (icmpOf f)) ∧ w' = w := by
  go_enter Try.func57, Try.ntmps57
  go_wp2_with fail
  all_goals (go_ret; exact ⟨ret_int (by unfold icmpOf; simp_all), rfl⟩)
theorem segU16_any (a : Option Addr) (c : Nat) (l : List Int) (x : Int) (w : World) (h : Row w a l) (hx : -9223372036854775808 ≤ x ∧ x ≤ 9223372036854775807) :
    Calls Try.prog 71 #[.slice a l.length c, .int .i64 x] w fun e w' => e = .returned (.int .i64 (u16v l x)) ∧ Below w.heap.size w w' := by
  have K : Hid _ := u16_any a c l x w h hx
  go_enter Try.func71, Try.ntmps71
  go_wp2_with fail
  refine Calls.mono K.out ?_
  rintro e W1 ⟨rfl, b1⟩
  go_wp2
  go_ret
  exact ⟨rfl, b1⟩
end Go.Proofs.Ytgdpcomcndidcaa

namespace Go.Proofs.Ytgdpcomcndidcaa
open Go.RowKit
set_option linter.unusedVariables false
set_option linter.unusedSimpArgs false

/-- The block g holds these cells. -/
def Blk (W : World) (g : Nat) (t : TypeId) (cs : Array Value) : Prop := W.heap[g]? = some (.cells cs t (0, 0))
theorem blk_new (w : World) (cs : Array Value) (t : TypeId) : Blk (w.alloc (.cells cs t)) w.heap.size t cs := heap_alloc_last w _
theorem Blk.lt {W : World} {g : Nat} {t : TypeId} {cs : Array Value} (h : Blk W g t cs) : g < W.heap.size := (Array.getElem?_eq_some_iff.1 h).1
theorem Blk.below {W W' : World} {g B : Nat} {t : TypeId} {cs : Array Value} (h : Blk W g t cs) (hb : Below B W W') (hg : g < B) : Blk W' g t cs := (hb.block g hg).trans h
theorem Blk.kept {W W' : World} {g : Nat} {t : TypeId} {cs : Array Value} (h : Blk W g t cs) (hb : Below W.heap.size W W') : Blk W' g t cs := h.below hb h.lt
theorem Blk.alloc {W : World} {g : Nat} {t : TypeId} {cs : Array Value} (h : Blk W g t cs) (X : Obj) : Blk (W.alloc X) g t cs := h.kept ((Below.refl _ _).alloc (Nat.le_refl _) _)
theorem Blk.drew {W : World} {g : Nat} {t : TypeId} {cs : Array Value} (h : Blk W g t cs) : Blk W.drew g t cs := h.kept ((Below.refl _ _).drew)
theorem Blk.cell {W : World} {g : Nat} {t : TypeId} {cs : Array Value} (h : Blk W g t cs) (i : Nat) (v : Value) (hv : cs[i]? = some v) : W.cell? ⟨g, i, none⟩ = some v :=
  (cell_of_row W g i cs t (0, 0) h).trans hv
theorem Blk.set {W : World} {g : Nat} {t : TypeId} {cs : Array Value} (h : Blk W g t cs) (cs' : Array Value) : Blk (W.setRow g cs') g t cs' := setRow_heap W g cs cs' t (0, 0) h
theorem setRow_heap_ne (W : World) (g k : Nat) (cs : Array Value) (h : k ≠ g) : (W.setRow g cs).heap[k]? = W.heap[k]? := by
  show (W.heap.modify g _)[k]? = _
  rw [Array.getElem?_modify, if_neg (fun e => h e.symm)]
theorem below_setRow {B : Nat} {w W : World} (hb : Below B w W) {g : Nat} (hg : B ≤ g) (cs : Array Value) : Below B w (W.setRow g cs) :=
  ⟨hb.os, hb.tape, hb.output, by rw [setRow_size]; exact hb.size, fun k hk => (setRow_heap_ne W g k cs (by omega)).trans (hb.block k hk)⟩
theorem Blk.other {W : World} {g g' : Nat} {t : TypeId} {cs : Array Value} (h : Blk W g t cs) (hn : g ≠ g') (cs' : Array Value) : Blk (W.setRow g' cs') g t cs := (setRow_heap_ne W g' g cs' hn).trans h
theorem Owns.row_other {W : World} {B g : Nat} {v : Value} {l : List Int} (h : Owns W B v l) (hg : g < B) (cs : Array Value) : Owns (W.setRow g cs) B v l := by
  obtain ⟨h1, h2⟩ := h
  refine ⟨h1, ?_⟩
  rcases h2 with h2 | ⟨g', cap, cur, h3, h4, h5, h6⟩
  · exact .inl h2
  · exact .inr ⟨g', cap, cur, h3, h4, (setRow_heap_ne W g g' cs (by omega)).trans h5, h6⟩


theorem Blk.put {W : World} {g : Nat} {t : TypeId} {cs : Array Value} (h : Blk W g t cs) (i : Nat) (v : Value) : Blk (W.setCell ⟨g, i, none⟩ v) g t (cs.setIfInBounds i v) := by
  rw [setCell_eq_setRow W g i cs t (0, 0) v h]
  exact h.set _
theorem Blk.put_other {W : World} {g g' : Nat} {t t' : TypeId} {cs cs' : Array Value} (h : Blk W g t cs) (h' : Blk W g' t' cs') (hn : g ≠ g') (i : Nat) (v : Value) : Blk (W.setCell ⟨g', i, none⟩ v) g t cs := by
  rw [setCell_eq_setRow W g' i cs' t' (0, 0) v h']
  exact h.other hn _
theorem Blk.frozen {W : World} {g : Nat} {t : TypeId} {cs : Array Value} (h : Blk W g t cs) (i : Nat) : W.frozen? ⟨g, i, none⟩ = false := by
  have h' : W.heap[g]? = some (.cells cs t (0, 0)) := h
  simp [World.frozen?, h']

/-- A whole struct out of its block. -/
theorem load_blk {W : World} {g : Nat} {t : TypeId} {cs : Array Value} (h : Blk W g t cs) {fs : _} (hu : Try.prog.underlying t = some (.struct fs)) (hi : (Try.prog.info? t).map (·.size) = some cs.size) :
    (loadVar t ⟨g, 0, none⟩).run Try.prog W = .ok (.agg cs) W := run_loadVar_row W g t t cs (0, 0) (.struct fs) h hu rfl hi
/-- The answer of a function whose one result lies in a block. -/
theorem ret_cell {R : Ending → World → Prop} {a : Act} {w : World} {g k : Nat} {t : TypeId} {cs : Array Value} (fn : Func) (hf : fn.results = #[.cell k t]) (h : Blk w g t cs) {fs : _} (hu : Try.prog.underlying t = some (.struct fs)) (hi : (Try.prog.info? t).map (·.size) = some cs.size)
    (h2 : a.tmps[k]?.getD undef = .pointer (some ⟨g, 0, none⟩)) (hdf : a.defers = []) (hR : R (.returned (.agg cs)) w) : bodyPost Try.prog fn R .ret a w := by
  refine bodyPost_ret (v := .agg cs) ?_ hdf hR
  have hl := load_blk h hu hi
  simp [results, hf, h2, asAddr, hl, Array.mapM_eq_mapM_toList]
theorem ret_cell_tmp {R : Ending → World → Prop} {a : Act} {w : World} {g k j : Nat} {t : TypeId} {cs : Array Value} {v : Value} (fn : Func) (hf : fn.results = #[.cell k t, .tmp j]) (h : Blk w g t cs) {fs : _} (hu : Try.prog.underlying t = some (.struct fs)) (hi : (Try.prog.info? t).map (·.size) = some cs.size)
    (h2 : a.tmps[k]?.getD undef = .pointer (some ⟨g, 0, none⟩)) (h3 : a.tmps[j]?.getD undef = v) (hdf : a.defers = []) (hR : R (.returned (.tuple #[.agg cs, v])) w) : bodyPost Try.prog fn R .ret a w := by
  refine bodyPost_ret (v := .tuple #[.agg cs, v]) ?_ hdf hR
  have hl := load_blk h hu hi
  simp [results, hf, h2, h3, asAddr, hl, Array.mapM_eq_mapM_toList]
/-- A whole struct out of its block, in a region that draws its order. -/
theorem yieldsIf_blk {ops : Array Oper} {S : World → Prop} {o : Oper} {ac : Act} (hgd : o.guard = none) (t : TypeId) (p : Operand) (ho : o.op = Op.load t p) (g : Nat) (hp : ac.eval p = .pointer (some ⟨g, 0, none⟩)) (cs : Array Value)
    (hS : ∀ w, S w → Blk w g t cs) {fs : _} (hu : Try.prog.underlying t = some (.struct fs)) (hi : (Try.prog.info? t).map (·.size) = some cs.size) : YieldsIf Try.prog ops S o (.agg cs) ac := by
  refine .inl ⟨by simp [Region.wanted, hgd], fun w hw => ?_⟩
  have hl := load_blk (hS w hw) hu hi
  simp [execOp, ho, hp, Instr.loadAt, Instr.sureAddr, hl, Result.andThen]
/-- One cell of a struct, in a region that draws its order. -/
theorem yieldsIf_build {ops : Array Oper} {S : World → Prop} {o : Oper} {ac : Act} (hgd : o.guard = none) (t : TypeId) (parts : Array (Nat × Operand)) (ho : o.op = Op.build t parts)
    (vs : Array (Nat × Value)) (hv : parts.map (fun p => (p.1, ac.eval p.2)) = vs) (r : Value) (hrun : ∀ w, (Instr.build t vs).run Try.prog w = .ok r w) : YieldsIf Try.prog ops S o r ac := by
  refine .inl ⟨by simp [Region.wanted, hgd], fun w _ => ?_⟩
  subst hv
  simp [execOp, ho, hrun, Result.andThen]
theorem step_store_blk {ops : Array Oper} {o : Oper} {ac : Act} {K : Act → World → Prop} {Q : Exit → Act → World → Prop} {Z : Prop} {w : World} (hgd : o.guard = none) (t : TypeId) (p x : Operand) (ho : o.op = Op.store t p x) (g : Nat) (cs old : Array Value)
    (hp : ac.eval p = .pointer (some ⟨g, 0, none⟩)) (hx : ac.eval x = .agg cs) (hb : Blk w g t old) (hi : (Try.prog.info? t).map (·.size) = some cs.size) (ho' : old.size = cs.size) (h1 : cs.all (·.oneCell') = true) (h : K (ac.put o.dst undef) (w.setRow g cs)) :
    if Region.wanted o (yielded ops ac.tmps) = true then Oper.wp Try.prog o ac w K Q else Z := by
  have hw : Region.wanted o (yielded ops ac.tmps) = true := by simp [Region.wanted, hgd]
  rw [if_pos hw]
  exact wp_store_row t p x ho g cs hp hx t old hb hi ho' h1 h
theorem fresh_nil {w w' : World} (h : Below w.heap.size w w') : Fresh w w' none 0 [] :=
  ⟨Owns.nil _ _, Nat.le_refl _, fun _ => rfl, ⟨by simp, M.Bytes.nil, fun h => by simp at h⟩, h⟩
theorem two_nil (w : World) (t : TypeId) (a b : Option Addr) (ca cb : Nat) (la lb : List Int) (ha : a = none → ca = 0) (hb : b = none → cb = 0) :
    ∀ i, i < ([la, lb] : List (List Int)).length → ∀ a' c', (∃ b' off, (some (⟨w.heap.size, 0, none⟩ : Addr)) = some ⟨b', off, none⟩ ∧ (w.alloc (.cells #[.slice a la.length ca, .slice b lb.length cb] t)).cell? ⟨b', off + i, none⟩ = some (.slice a' (([la, lb] : List (List Int)).getD i []).length c')) → a' = none → c' = 0 := by
  rintro i hi a' c' ⟨b', off, e, h⟩
  simp only [Option.some.injEq, Addr.mk.injEq] at e
  obtain ⟨rfl, rfl, _⟩ := e
  have hi' : i < 2 := by simpa using hi
  match i, hi', h with
  | 0, _, h => simp at h; obtain ⟨rfl, rfl⟩ := h; exact ha
  | 1, _, h => simp at h; obtain ⟨rfl, rfl⟩ := h; exact hb
/-- slices.Concat of two. -/
theorem concat2 (W : World) (a b : Option Addr) (ca cb : Nat) (la lb r : List Int) (ha : Row W a la) (na : a = none → ca = 0) (hb : Row W b lb) (nb : b = none → cb = 0) (hr : la ++ lb = r) (hl : r.length ≤ 1048576) :
    Calls Try.prog 24 #[.slice (some ⟨W.heap.size, 0, none⟩) 2 2] (W.alloc (.cells #[.slice a la.length ca, .slice b lb.length cb] 28)) fun e w' => ∃ a' c', e = .returned (.slice a' r.length c') ∧ Fresh W w' a' c' r := by
  refine (concat_any _ 2 [la, lb] _ (rowss_two W 28 W.heap.size rfl a b ca cb la lb ha hb) (two_nil W 28 a b ca cb la lb na nb) r (by simpa using hr) hl).mono ?_
  rintro e w' ⟨a', c', rfl, f⟩
  exact ⟨a', c', rfl, owns_le (by simp) f.owns, f.room, f.nil, f.row, ((Below.refl _ _).alloc (Nat.le_refl _) _).trans (f.below.mono (by simp))⟩
end Go.Proofs.Ytgdpcomcndidcaa

namespace Go.Proofs.Ytgdpcomcndidcaa
open Go.RowKit
set_option linter.unusedVariables false
set_option linter.unusedSimpArgs false

set_option maxRecDepth 100000 in
set_option maxHeartbeats 2000000 in
theorem segAddrAt_any (a : Option Addr) (c : Nat) (l : List Int) (x n : Int) (w : World) (h : Row w a l) (hnil : a = none → c = 0) (hll : l.length ≤ 140737488351232) (hc : l.length ≤ c) (hcm : c ≤ 9223372036854775807) (hx : -9223372036854775808 ≤ x ∧ x ≤ 9223372036854775807) :
    Calls Try.prog 88 #[.slice a l.length c, .int .i64 x, .int .i64 n] w fun e w' => e = .returned (fromB (partv l x n)).1.v ∧ Below w.heap.size w w' := by
  obtain ⟨W1, hW1⟩ : ∃ W1, w.alloc (.cells #[.int .i64 0, .int .u64 0, .int .u64 0] 24) = W1 := ⟨_, rfl⟩
  have b1 : Below w.heap.size w W1 := by rw [← hW1]; exact (Below.refl _ _).alloc (Nat.le_refl _) _
  have B1 : Blk W1 w.heap.size 24 #[.int .i64 0, .int .u64 0, .int .u64 0] := by rw [← hW1]; exact blk_new _ _ _
  have K : Hid _ := part_any a c l x n W1 (h.below b1) hnil hll hc hcm hx
  obtain ⟨R, hR⟩ : ∃ R, fromB (partv l x n) = R := ⟨_, rfl⟩
  have HR : Hid _ := hR
  rw [hR]
  clear hR
  obtain ⟨⟨rf, rh, rl⟩, re⟩ := R
  go_enter Try.func88, Try.ntmps88
  go_wp2_with fail
  refine Calls.mono K.out ?_
  rintro e W2 ⟨a2, c2, rfl, fr⟩
  clear K hW1
  have B2 := B1.kept fr.below
  have b2 : Below w.heap.size w W2 := b1.trans (fr.below.mono b1.size)
  have K2' := from_any a2 c2 (partv l x n) W2 fr.row
  rw [HR.out] at K2'
  have K2 : Hid _ := K2'
  clear K2' HR
  clear fr B1 b1
  go_wp2_with fail
  refine Calls.mono K2.out ?_
  rintro e W3 ⟨rfl, b3'⟩
  have B3 := B2.kept b3'
  have b3 : Below w.heap.size w W3 := b2.trans (b3'.mono b2.size)
  clear K2 b3' B2 b2
  obtain ⟨W4, hW4⟩ : ∃ W4, W3.alloc (.cells #[.int .i64 0, .int .u64 0, .int .u64 0] 24) = W4 := ⟨_, rfl⟩
  have B4 : Blk W4 W3.heap.size 24 #[.int .i64 0, .int .u64 0, .int .u64 0] := by rw [← hW4]; exact blk_new _ _ _
  have B4' : Blk W4 w.heap.size 24 #[.int .i64 0, .int .u64 0, .int .u64 0] := by rw [← hW4]; exact B3.alloc _
  have b4 : Below w.heap.size w W4 := by rw [← hW4]; exact b3.alloc b3.size _
  have ne : w.heap.size ≠ W3.heap.size := by have := B3.lt; omega
  have B5 := B4.set #[.int .i64 rf, .int .u64 rh, .int .u64 rl]
  have B5' := B4'.other ne #[.int .i64 rf, .int .u64 rh, .int .u64 rl]
  have b5 := below_setRow b4 (Nat.le_of_lt (Nat.lt_of_le_of_ne b3.size ne)) #[.int .i64 rf, .int .u64 rh, .int .u64 rl]
  obtain ⟨W5, hW5⟩ : ∃ W5, W4.setRow W3.heap.size #[.int .i64 rf, .int .u64 rh, .int .u64 rl] = W5 := ⟨_, rfl⟩
  rw [hW5] at B5 B5' b5
  have B6 := B5'.set #[.int .i64 rf, .int .u64 rh, .int .u64 rl]
  have b6 := below_setRow b5 (Nat.le_refl _) #[.int .i64 rf, .int .u64 rh, .int .u64 rl]
  have HW5 : Hid _ := hW5
  clear hW5 B3 b3 ne
  go_wp2_with (first
    | (refine wpList_store_row rfl _ _ _ rfl W3.heap.size #[.int .i64 rf, .int .u64 rh, .int .u64 rl] (by rfl) (by rfl) _ _ B4 (by kernel_rfl) (by rfl) (by kernel_rfl) ?_; rw [HW5.out])
    | (refine wpList_load_row rfl _ _ rfl W3.heap.size (by rfl) _ _ _ _ B5 Try.underlying24 rfl (by kernel_rfl) ?_)
    | (refine wpList_store_row rfl _ _ _ rfl w.heap.size #[.int .i64 rf, .int .u64 rh, .int .u64 rl] (by rfl) (by rfl) _ _ B5' (by kernel_rfl) (by rfl) (by kernel_rfl) ?_))
  exact ret_cell (k := 6) Try.f88 (by kernel_rfl) B6 Try.underlying24 (by kernel_rfl) (by rfl) rfl ⟨rfl, b6⟩

set_option maxRecDepth 100000 in
set_option maxHeartbeats 4000000 in
theorem ends_any (f sf sh sl df dh dl pr ho : Int) (fg : Bool) (id of : Int) (mo : Bool) (xa : Option Addr) (xn xc : Nat) (da : Option Addr) (dc : Nat) (l : List Int) (w : World) :
    Calls Try.prog 80 #[.agg #[.int .i64 f, .int .i64 sf, .int .u64 sh, .int .u64 sl, .int .i64 df, .int .u64 dh, .int .u64 dl, .int .i64 pr, .int .i64 ho, .bool fg, .int .u32 id, .int .i64 of, .bool mo, .slice xa xn xc, .slice da l.length dc]] w fun e w' => e = .returned (.agg #[.int .i64 f, .int .i64 pr, .int .i64 sf, .int .u64 sh, .int .u64 sl, .int .i64 df, .int .u64 dh, .int .u64 dl, .int .i64 0, .int .i64 0]) ∧ Below w.heap.size w w' := by
  obtain ⟨W1, hW1⟩ : ∃ W1, w.alloc (.cells #[.int .i64 f, .int .i64 sf, .int .u64 sh, .int .u64 sl, .int .i64 df, .int .u64 dh, .int .u64 dl, .int .i64 pr, .int .i64 ho, .bool fg, .int .u32 id, .int .i64 of, .bool mo, .slice xa xn xc, .slice da l.length dc] 64) = W1 := ⟨_, rfl⟩
  obtain ⟨W2, hW2⟩ : ∃ W2, W1.alloc (.cells #[.int .i64 0, .int .i64 0, .int .i64 0, .int .u64 0, .int .u64 0, .int .i64 0, .int .u64 0, .int .u64 0, .int .i64 0, .int .i64 0] 26) = W2 := ⟨_, rfl⟩
  have b1 : Below w.heap.size w W1 := by rw [← hW1]; exact (Below.refl _ _).alloc (Nat.le_refl _) _
  have b2 : Below w.heap.size w W2 := by rw [← hW2]; exact b1.alloc b1.size _
  have B1' : Blk W1 w.heap.size 64 #[.int .i64 f, .int .i64 sf, .int .u64 sh, .int .u64 sl, .int .i64 df, .int .u64 dh, .int .u64 dl, .int .i64 pr, .int .i64 ho, .bool fg, .int .u32 id, .int .i64 of, .bool mo, .slice xa xn xc, .slice da l.length dc] := by rw [← hW1]; exact blk_new _ _ _
  have B1 : Blk W2 w.heap.size 64 #[.int .i64 f, .int .i64 sf, .int .u64 sh, .int .u64 sl, .int .i64 df, .int .u64 dh, .int .u64 dl, .int .i64 pr, .int .i64 ho, .bool fg, .int .u32 id, .int .i64 of, .bool mo, .slice xa xn xc, .slice da l.length dc] := by rw [← hW2]; exact B1'.alloc _
  have B2 : Blk W2 W1.heap.size 26 #[.int .i64 0, .int .i64 0, .int .i64 0, .int .u64 0, .int .u64 0, .int .i64 0, .int .u64 0, .int .u64 0, .int .i64 0, .int .i64 0] := by rw [← hW2]; exact blk_new _ _ _
  have g1 : w.heap.size < W1.heap.size := B1'.lt
  clear B1'
  have d0 := B1.cell 0 _ rfl
  have d1 := B1.cell 1 _ rfl
  have d2 := B1.cell 2 _ rfl
  have d3 := B1.cell 3 _ rfl
  have d4 := B1.cell 4 _ rfl
  have d5 := B1.cell 5 _ rfl
  have d6 := B1.cell 6 _ rfl
  have d7 := B1.cell 7 _ rfl
  have b3 := below_setRow b2 (Nat.le_of_lt g1) #[.int .i64 f, .int .i64 pr, .int .i64 sf, .int .u64 sh, .int .u64 sl, .int .i64 df, .int .u64 dh, .int .u64 dl, .int .i64 0, .int .i64 0]
  have B3 := B2.set #[.int .i64 f, .int .i64 pr, .int .i64 sf, .int .u64 sh, .int .u64 sl, .int .i64 df, .int .u64 dh, .int .u64 dl, .int .i64 0, .int .i64 0]
  go_enter Try.func80, Try.ntmps80
  go_wp2_with (refine wpList_store_row rfl _ _ _ rfl W1.heap.size #[.int .i64 f, .int .i64 pr, .int .i64 sf, .int .u64 sh, .int .u64 sl, .int .i64 df, .int .u64 dh, .int .u64 dl, .int .i64 0, .int .i64 0] (by rfl) (by rfl) _ _ B2 (by kernel_rfl) (by rfl) (by kernel_rfl) ?_)
  exact ret_cell (k := 2) Try.f80 (by kernel_rfl) B3 Try.underlying26 (by kernel_rfl) (by rfl) rfl ⟨rfl, b3⟩

end Go.Proofs.Ytgdpcomcndidcaa

namespace Go.Proofs.Ytgdpcomcndidcaa
open Go.RowKit
set_option linter.unusedVariables false
set_option linter.unusedSimpArgs false

set_option maxRecDepth 100000 in
set_option maxHeartbeats 4000000 in
theorem withPorts_6 (f pr sf sh sl df dh dl : Int) (a : Option Addr) (c : Nat) (l : List Int) (w : World) (h : Row w a l) (h8 : 8 ≤ l.length) (h6 : pr = 6) :
    Calls Try.prog 82 #[.agg #[.int .i64 f, .int .i64 pr, .int .i64 sf, .int .u64 sh, .int .u64 sl, .int .i64 df, .int .u64 dh, .int .u64 dl, .int .i64 0, .int .i64 0], .slice a l.length c] w fun e w' => e = .returned (.agg #[.int .i64 f, .int .i64 pr, .int .i64 sf, .int .u64 sh, .int .u64 sl, .int .i64 df, .int .u64 dh, .int .u64 dl, .int .i64 (portsOf f pr l).1, .int .i64 (portsOf f pr l).2]) ∧ Below w.heap.size w w' := by
  obtain ⟨V, hV⟩ : ∃ V, portsOf f pr l = V := ⟨_, rfl⟩
  have HV : Hid (portsOf f pr l = V) := hV
  rw [hV]
  clear hV
  obtain ⟨W1, hW1⟩ : ∃ W1, w.alloc (.cells #[.int .i64 f, .int .i64 pr, .int .i64 sf, .int .u64 sh, .int .u64 sl, .int .i64 df, .int .u64 dh, .int .u64 dl, .int .i64 0, .int .i64 0] 26) = W1 := ⟨_, rfl⟩
  obtain ⟨W2, hW2⟩ : ∃ W2, W1.alloc (.cells #[.int .i64 0, .int .i64 0, .int .i64 0, .int .u64 0, .int .u64 0, .int .i64 0, .int .u64 0, .int .u64 0, .int .i64 0, .int .i64 0] 26) = W2 := ⟨_, rfl⟩
  have b1 : Below w.heap.size w W1 := by rw [← hW1]; exact (Below.refl _ _).alloc (Nat.le_refl _) _
  have b2 : Below w.heap.size w W2 := by rw [← hW2]; exact b1.alloc b1.size _
  have B1' : Blk W1 w.heap.size 26 #[.int .i64 f, .int .i64 pr, .int .i64 sf, .int .u64 sh, .int .u64 sl, .int .i64 df, .int .u64 dh, .int .u64 dl, .int .i64 0, .int .i64 0] := by rw [← hW1]; exact blk_new _ _ _
  have B1 : Blk W2 w.heap.size 26 #[.int .i64 f, .int .i64 pr, .int .i64 sf, .int .u64 sh, .int .u64 sl, .int .i64 df, .int .u64 dh, .int .u64 dl, .int .i64 0, .int .i64 0] := by rw [← hW2]; exact B1'.alloc _
  have B2 : Blk W2 W1.heap.size 26 #[.int .i64 0, .int .i64 0, .int .i64 0, .int .u64 0, .int .u64 0, .int .i64 0, .int .u64 0, .int .u64 0, .int .i64 0, .int .i64 0] := by rw [← hW2]; exact blk_new _ _ _
  have g1 : w.heap.size < W1.heap.size := B1'.lt
  clear B1'
  have d0 := B1.cell 0 (.int .i64 f) rfl
  have d1 := B1.cell 1 (.int .i64 pr) rfl
  have d2 := B1.cell 2 (.int .i64 sf) rfl
  have d3 := B1.cell 3 (.int .u64 sh) rfl
  have d4 := B1.cell 4 (.int .u64 sl) rfl
  have d5 := B1.cell 5 (.int .i64 df) rfl
  have d6 := B1.cell 6 (.int .u64 dh) rfl
  have d7 := B1.cell 7 (.int .u64 dl) rfl
  have d8 := B1.cell 8 (.int .i64 0) rfl
  have d9 := B1.cell 9 (.int .i64 0) rfl
  obtain ⟨p1, hp1⟩ : ∃ p, u16v l 0 = p := ⟨_, rfl⟩
  obtain ⟨p2, hp2⟩ : ∃ p, u16v l 2 = p := ⟨_, rfl⟩
  have K1 := segU16_any a c l 0 W2 (h.below b2) (by decide)
  rw [hp1] at K1
  have K1 : Hid _ := K1
  have K2 : Hid (∀ W, Row W a l → Calls Try.prog 71 #[.slice a l.length c, .int .i64 2] W _) := fun W hW => by
    have := segU16_any a c l 2 W hW (by decide)
    rw [hp2] at this
    exact this
  have e : V = (p1, p2) := by
    rw [← HV.out, ← hp1, ← hp2]
    simp [portsOf, h6]
  subst e
  clear HV hp1 hp2
  subst h6
  go_enter Try.func82, Try.ntmps82
  go_wp2_with fail
  refine Calls.mono K1.out ?_
  rintro e W3 ⟨rfl, bb⟩
  have B3 := B1.kept bb
  have B3' := B2.kept bb
  have b3 : Below w.heap.size w W3 := b2.trans (bb.mono b2.size)
  clear bb B1 B2 b2 hW1 d0 d1 d2 d3 d4 d5 d6 d7 d8 d9
  try clear K1
  go_wp2_with fail
  refine Calls.mono (K2.out _ (h.below b3)) ?_
  rintro e W4 ⟨rfl, bb⟩
  have B4 := B3.kept bb
  have B4' := B3'.kept bb
  have b4 : Below w.heap.size w W4 := b3.trans (bb.mono b3.size)
  clear K2 bb B3 B3' b3
  have d8 := B4.cell 8 (.int .i64 0) rfl
  have d9 := B4.cell 9 (.int .i64 0) rfl
  have z8 := B4.frozen 8
  have z9 := B4.frozen 9
  have ne : W1.heap.size ≠ w.heap.size := by omega
  have B3 := (B4.put 8 (.int .i64 p1)).put 9 (.int .i64 p2)
  have B3' := (B4'.put_other B4 ne 8 (.int .i64 p1)).put_other (B4.put 8 (.int .i64 p1)) ne 9 (.int .i64 p2)
  have b3 := (b4.setCell (p := ⟨w.heap.size, 8, none⟩) (Nat.le_refl _) (.int .i64 p1)).setCell (p := ⟨w.heap.size, 9, none⟩) (Nat.le_refl _) (.int .i64 p2)
  replace B3 : Blk _ w.heap.size 26 #[.int .i64 f, .int .i64 6, .int .i64 sf, .int .u64 sh, .int .u64 sl, .int .i64 df, .int .u64 dh, .int .u64 dl, .int .i64 p1, .int .i64 p2] := B3
  clear B4 B4' b4 ne
  have Bf := B3'.set #[.int .i64 f, .int .i64 6, .int .i64 sf, .int .u64 sh, .int .u64 sl, .int .i64 df, .int .u64 dh, .int .u64 dl, .int .i64 p1, .int .i64 p2]
  have bf := below_setRow b3 (Nat.le_of_lt g1) #[.int .i64 f, .int .i64 6, .int .i64 sf, .int .u64 sh, .int .u64 sl, .int .i64 df, .int .u64 dh, .int .u64 dl, .int .i64 p1, .int .i64 p2]
  go_wp2_with (first
    | (refine wpList_load_row rfl _ _ rfl w.heap.size (by rfl) _ _ _ _ B3 Try.underlying26 rfl (by kernel_rfl) ?_)
    | (refine wpList_store_row rfl _ _ _ rfl W1.heap.size #[.int .i64 f, .int .i64 6, .int .i64 sf, .int .u64 sh, .int .u64 sl, .int .i64 df, .int .u64 dh, .int .u64 dl, .int .i64 p1, .int .i64 p2] (by rfl) (by rfl) _ _ B3' (by kernel_rfl) (by rfl) (by kernel_rfl) ?_))
  exact ret_cell (k := 4) Try.f82 (by kernel_rfl) Bf Try.underlying26 (by kernel_rfl) (by rfl) rfl ⟨rfl, bf⟩

set_option maxRecDepth 100000 in
set_option maxHeartbeats 4000000 in
theorem withPorts_17 (f pr sf sh sl df dh dl : Int) (a : Option Addr) (c : Nat) (l : List Int) (w : World) (h : Row w a l) (h8 : 8 ≤ l.length) (h6 : ¬ pr = 6) (h17 : pr = 17) :
    Calls Try.prog 82 #[.agg #[.int .i64 f, .int .i64 pr, .int .i64 sf, .int .u64 sh, .int .u64 sl, .int .i64 df, .int .u64 dh, .int .u64 dl, .int .i64 0, .int .i64 0], .slice a l.length c] w fun e w' => e = .returned (.agg #[.int .i64 f, .int .i64 pr, .int .i64 sf, .int .u64 sh, .int .u64 sl, .int .i64 df, .int .u64 dh, .int .u64 dl, .int .i64 (portsOf f pr l).1, .int .i64 (portsOf f pr l).2]) ∧ Below w.heap.size w w' := by
  obtain ⟨V, hV⟩ : ∃ V, portsOf f pr l = V := ⟨_, rfl⟩
  have HV : Hid (portsOf f pr l = V) := hV
  rw [hV]
  clear hV
  obtain ⟨W1, hW1⟩ : ∃ W1, w.alloc (.cells #[.int .i64 f, .int .i64 pr, .int .i64 sf, .int .u64 sh, .int .u64 sl, .int .i64 df, .int .u64 dh, .int .u64 dl, .int .i64 0, .int .i64 0] 26) = W1 := ⟨_, rfl⟩
  obtain ⟨W2, hW2⟩ : ∃ W2, W1.alloc (.cells #[.int .i64 0, .int .i64 0, .int .i64 0, .int .u64 0, .int .u64 0, .int .i64 0, .int .u64 0, .int .u64 0, .int .i64 0, .int .i64 0] 26) = W2 := ⟨_, rfl⟩
  have b1 : Below w.heap.size w W1 := by rw [← hW1]; exact (Below.refl _ _).alloc (Nat.le_refl _) _
  have b2 : Below w.heap.size w W2 := by rw [← hW2]; exact b1.alloc b1.size _
  have B1' : Blk W1 w.heap.size 26 #[.int .i64 f, .int .i64 pr, .int .i64 sf, .int .u64 sh, .int .u64 sl, .int .i64 df, .int .u64 dh, .int .u64 dl, .int .i64 0, .int .i64 0] := by rw [← hW1]; exact blk_new _ _ _
  have B1 : Blk W2 w.heap.size 26 #[.int .i64 f, .int .i64 pr, .int .i64 sf, .int .u64 sh, .int .u64 sl, .int .i64 df, .int .u64 dh, .int .u64 dl, .int .i64 0, .int .i64 0] := by rw [← hW2]; exact B1'.alloc _
  have B2 : Blk W2 W1.heap.size 26 #[.int .i64 0, .int .i64 0, .int .i64 0, .int .u64 0, .int .u64 0, .int .i64 0, .int .u64 0, .int .u64 0, .int .i64 0, .int .i64 0] := by rw [← hW2]; exact blk_new _ _ _
  have g1 : w.heap.size < W1.heap.size := B1'.lt
  clear B1'
  have d0 := B1.cell 0 (.int .i64 f) rfl
  have d1 := B1.cell 1 (.int .i64 pr) rfl
  have d2 := B1.cell 2 (.int .i64 sf) rfl
  have d3 := B1.cell 3 (.int .u64 sh) rfl
  have d4 := B1.cell 4 (.int .u64 sl) rfl
  have d5 := B1.cell 5 (.int .i64 df) rfl
  have d6 := B1.cell 6 (.int .u64 dh) rfl
  have d7 := B1.cell 7 (.int .u64 dl) rfl
  have d8 := B1.cell 8 (.int .i64 0) rfl
  have d9 := B1.cell 9 (.int .i64 0) rfl
  obtain ⟨p1, hp1⟩ : ∃ p, u16v l 0 = p := ⟨_, rfl⟩
  obtain ⟨p2, hp2⟩ : ∃ p, u16v l 2 = p := ⟨_, rfl⟩
  have K1 := segU16_any a c l 0 W2 (h.below b2) (by decide)
  rw [hp1] at K1
  have K1 : Hid _ := K1
  have K2 : Hid (∀ W, Row W a l → Calls Try.prog 71 #[.slice a l.length c, .int .i64 2] W _) := fun W hW => by
    have := segU16_any a c l 2 W hW (by decide)
    rw [hp2] at this
    exact this
  have e : V = (p1, p2) := by
    rw [← HV.out, ← hp1, ← hp2]
    simp [portsOf, h17]
  subst e
  clear HV hp1 hp2
  subst h17
  go_enter Try.func82, Try.ntmps82
  go_wp2_with fail
  refine Calls.mono K1.out ?_
  rintro e W3 ⟨rfl, bb⟩
  have B3 := B1.kept bb
  have B3' := B2.kept bb
  have b3 : Below w.heap.size w W3 := b2.trans (bb.mono b2.size)
  clear bb B1 B2 b2 hW1 d0 d1 d2 d3 d4 d5 d6 d7 d8 d9
  try clear K1
  go_wp2_with fail
  refine Calls.mono (K2.out _ (h.below b3)) ?_
  rintro e W4 ⟨rfl, bb⟩
  have B4 := B3.kept bb
  have B4' := B3'.kept bb
  have b4 : Below w.heap.size w W4 := b3.trans (bb.mono b3.size)
  clear K2 bb B3 B3' b3
  have d8 := B4.cell 8 (.int .i64 0) rfl
  have d9 := B4.cell 9 (.int .i64 0) rfl
  have z8 := B4.frozen 8
  have z9 := B4.frozen 9
  have ne : W1.heap.size ≠ w.heap.size := by omega
  have B3 := (B4.put 8 (.int .i64 p1)).put 9 (.int .i64 p2)
  have B3' := (B4'.put_other B4 ne 8 (.int .i64 p1)).put_other (B4.put 8 (.int .i64 p1)) ne 9 (.int .i64 p2)
  have b3 := (b4.setCell (p := ⟨w.heap.size, 8, none⟩) (Nat.le_refl _) (.int .i64 p1)).setCell (p := ⟨w.heap.size, 9, none⟩) (Nat.le_refl _) (.int .i64 p2)
  replace B3 : Blk _ w.heap.size 26 #[.int .i64 f, .int .i64 17, .int .i64 sf, .int .u64 sh, .int .u64 sl, .int .i64 df, .int .u64 dh, .int .u64 dl, .int .i64 p1, .int .i64 p2] := B3
  clear B4 B4' b4 ne
  have Bf := B3'.set #[.int .i64 f, .int .i64 17, .int .i64 sf, .int .u64 sh, .int .u64 sl, .int .i64 df, .int .u64 dh, .int .u64 dl, .int .i64 p1, .int .i64 p2]
  have bf := below_setRow b3 (Nat.le_of_lt g1) #[.int .i64 f, .int .i64 17, .int .i64 sf, .int .u64 sh, .int .u64 sl, .int .i64 df, .int .u64 dh, .int .u64 dl, .int .i64 p1, .int .i64 p2]
  go_wp2_with (first
    | (refine wpList_load_row rfl _ _ rfl w.heap.size (by rfl) _ _ _ _ B3 Try.underlying26 rfl (by kernel_rfl) ?_)
    | (refine wpList_store_row rfl _ _ _ rfl W1.heap.size #[.int .i64 f, .int .i64 17, .int .i64 sf, .int .u64 sh, .int .u64 sl, .int .i64 df, .int .u64 dh, .int .u64 dl, .int .i64 p1, .int .i64 p2] (by rfl) (by rfl) _ _ B3' (by kernel_rfl) (by rfl) (by kernel_rfl) ?_))
  exact ret_cell (k := 4) Try.f82 (by kernel_rfl) Bf Try.underlying26 (by kernel_rfl) (by rfl) rfl ⟨rfl, bf⟩

set_option maxRecDepth 100000 in
set_option maxHeartbeats 4000000 in
theorem withPorts_echo (f pr sf sh sl df dh dl : Int) (a : Option Addr) (c : Nat) (l : List Int) (w : World) (h : Row w a l) (h8 : 8 ≤ l.length) (h6 : ¬ pr = 6) (h17 : ¬ pr = 17) (hi : pr = icmpOf f) (he : isEcho f (l.getD 0 0) = true) :
    Calls Try.prog 82 #[.agg #[.int .i64 f, .int .i64 pr, .int .i64 sf, .int .u64 sh, .int .u64 sl, .int .i64 df, .int .u64 dh, .int .u64 dl, .int .i64 0, .int .i64 0], .slice a l.length c] w fun e w' => e = .returned (.agg #[.int .i64 f, .int .i64 pr, .int .i64 sf, .int .u64 sh, .int .u64 sl, .int .i64 df, .int .u64 dh, .int .u64 dl, .int .i64 (portsOf f pr l).1, .int .i64 (portsOf f pr l).2]) ∧ Below w.heap.size w w' := by
  obtain ⟨V, hV⟩ : ∃ V, portsOf f pr l = V := ⟨_, rfl⟩
  have HV : Hid (portsOf f pr l = V) := hV
  rw [hV]
  clear hV
  obtain ⟨W1, hW1⟩ : ∃ W1, w.alloc (.cells #[.int .i64 f, .int .i64 pr, .int .i64 sf, .int .u64 sh, .int .u64 sl, .int .i64 df, .int .u64 dh, .int .u64 dl, .int .i64 0, .int .i64 0] 26) = W1 := ⟨_, rfl⟩
  obtain ⟨W2, hW2⟩ : ∃ W2, W1.alloc (.cells #[.int .i64 0, .int .i64 0, .int .i64 0, .int .u64 0, .int .u64 0, .int .i64 0, .int .u64 0, .int .u64 0, .int .i64 0, .int .i64 0] 26) = W2 := ⟨_, rfl⟩
  have b1 : Below w.heap.size w W1 := by rw [← hW1]; exact (Below.refl _ _).alloc (Nat.le_refl _) _
  have b2 : Below w.heap.size w W2 := by rw [← hW2]; exact b1.alloc b1.size _
  have B1' : Blk W1 w.heap.size 26 #[.int .i64 f, .int .i64 pr, .int .i64 sf, .int .u64 sh, .int .u64 sl, .int .i64 df, .int .u64 dh, .int .u64 dl, .int .i64 0, .int .i64 0] := by rw [← hW1]; exact blk_new _ _ _
  have B1 : Blk W2 w.heap.size 26 #[.int .i64 f, .int .i64 pr, .int .i64 sf, .int .u64 sh, .int .u64 sl, .int .i64 df, .int .u64 dh, .int .u64 dl, .int .i64 0, .int .i64 0] := by rw [← hW2]; exact B1'.alloc _
  have B2 : Blk W2 W1.heap.size 26 #[.int .i64 0, .int .i64 0, .int .i64 0, .int .u64 0, .int .u64 0, .int .i64 0, .int .u64 0, .int .u64 0, .int .i64 0, .int .i64 0] := by rw [← hW2]; exact blk_new _ _ _
  have g1 : w.heap.size < W1.heap.size := B1'.lt
  clear B1'
  have d0 := B1.cell 0 (.int .i64 f) rfl
  have d1 := B1.cell 1 (.int .i64 pr) rfl
  have d2 := B1.cell 2 (.int .i64 sf) rfl
  have d3 := B1.cell 3 (.int .u64 sh) rfl
  have d4 := B1.cell 4 (.int .u64 sl) rfl
  have d5 := B1.cell 5 (.int .i64 df) rfl
  have d6 := B1.cell 6 (.int .u64 dh) rfl
  have d7 := B1.cell 7 (.int .u64 dl) rfl
  have d8 := B1.cell 8 (.int .i64 0) rfl
  have d9 := B1.cell 9 (.int .i64 0) rfl
  have HX : Hid ((¬ pr = 6) ∧ (¬ pr = 17) ∧ pr = icmpOf f ∧ isEcho f (l.getD 0 0) = true) := ⟨h6, h17, hi, he⟩
  have h6' : (pr == 6) = false := by simpa using h6
  have h17' : (pr == 17) = false := by simpa using h17
  have KI : Hid (∀ W, Calls Try.prog 57 #[.int .i64 f] W _) := fun W => icmpOf_any f W
  clear h6 h17
  obtain ⟨I, hI⟩ : ∃ I, icmpOf f = I := ⟨_, rfl⟩
  rw [hI] at KI hi HX
  have HI : Hid (icmpOf f = I) := hI
  clear hI
  obtain ⟨x0, e0⟩ : ∃ x, l.getD 0 0 = x := ⟨_, rfl⟩
  have q0 := h.bytes.get 0
  rw [e0] at q0 he
  obtain ⟨bk, off, rfl, hcl⟩ := h.cells (by omega)
  have y0 := kept (b := bk) (o := off + 0) b2 (hcl 0 (by omega))
  rw [e0, Nat.add_zero] at y0
  clear hcl e0
  have wx0 : IntKind.i64.wrap x0 = x0 := wraps_i64 _ (by omega) (by omega)
  have i0 : (0 : Int) < (l.length : Int) := by omega
  have hne : ¬ l = [] := by intro e; rw [e] at h8; simp at h8
  have KE : Hid (∀ W, Calls Try.prog 64 #[.int .i64 f, .int .i64 x0] W _) := fun W => isEcho_any f x0 W
  rw [he] at KE
  clear he
  obtain ⟨p1, hp1⟩ : ∃ p, u16v l 4 = p := ⟨_, rfl⟩
  have K2 : Hid (∀ W, Row W (some ⟨bk, off, none⟩) l → Calls Try.prog 71 #[.slice (some ⟨bk, off, none⟩) l.length c, .int .i64 4] W _) := fun W hW => by
    have := segU16_any (some ⟨bk, off, none⟩) c l 4 W hW (by decide)
    rw [hp1] at this
    exact this
  have e : V = (p1, p1) := by
    rw [← HV.out, ← hp1]
    obtain ⟨z1, z2, z3, z4⟩ := HX.out
    unfold portsOf
    rw [if_neg z1, if_neg z2, HI.out, if_pos z3, if_pos z4]
  subst e
  clear HV hp1 HX HI
  subst hi
  go_enter Try.func82, Try.ntmps82
  go_wp2_with fail
  refine Calls.mono (KI.out _) ?_
  rintro e W3 ⟨rfl, hW3⟩
  subst hW3
  clear KI
  go_wp2_with fail
  refine wp_region_noPanic ?_
  refine wp_region_held_drew (S := fun w' => w'.cell? ⟨bk, off, none⟩ = some (.int .u8 x0) ∧ w'.cell? ⟨w.heap.size, 0, none⟩ = some (.int .i64 f)) (by kernel_rfl) (by exact ⟨y0, d0⟩) (fun hHeld => ?_)
  refine wpAnyH_take (i := 0) (oi := { dst := some 21, op := Op.fieldAddr 26 (.tmp 2) 0, type := 0, pos := "parse.go:114", after := #[], guard := none }) (v := (.pointer (some ⟨w.heap.size, 0, none⟩))) rfl (by kernel_rfl) (by kernel_rfl) (by kernel_rfl) (fun _ _ _ h => h) (Or.inl ⟨by rfl, ?_⟩) hHeld ?_
  · intro w9 hSw
    try dsimp only at hSw
    go_simp
  try simp only [Act.put, List.setIfInBounds_toArray, List.set_cons_zero, List.set_cons_succ]
  refine wpAnyH_take (i := 1) (oi := { dst := some 22, op := Op.load 3 (.tmp 21), type := 3, pos := "parse.go:114", after := #[{ on := 0, ground := Ground.data }], guard := none }) (v := (.int .i64 f)) rfl (by kernel_rfl) (by kernel_rfl) (by kernel_rfl) (fun _ _ _ h => h) (Or.inl ⟨by rfl, ?_⟩) hHeld ?_
  · intro w9 hSw
    try dsimp only at hSw
    go_simp
  try simp only [Act.put, List.setIfInBounds_toArray, List.set_cons_zero, List.set_cons_succ]
  refine wpAnyH_take (i := 2) (oi := { dst := some 23, op := Op.move (.tmp 1), type := 28, pos := "parse.go:114", after := #[], guard := none }) (v := (.slice (some ⟨bk, off, none⟩) l.length c)) rfl (by kernel_rfl) (by kernel_rfl) (by kernel_rfl) (fun _ _ _ h => h) (Or.inl ⟨by rfl, ?_⟩) hHeld ?_
  · intro w9 hSw
    try dsimp only at hSw
    go_simp
  try simp only [Act.put, List.setIfInBounds_toArray, List.set_cons_zero, List.set_cons_succ]
  refine wpAnyH_take (i := 3) (oi := { dst := some 24, op := Op.indexAddr 28 (.tmp 23) (.const (.int .i64 0)), type := 0, pos := "parse.go:114", after := #[{ on := 2, ground := Ground.data }], guard := none }) (v := (.pointer (some ⟨bk, off, none⟩))) rfl (by kernel_rfl) (by kernel_rfl) (by kernel_rfl) (fun _ _ _ h => h) (Or.inl ⟨by rfl, ?_⟩) hHeld ?_
  · intro w9 hSw
    try dsimp only at hSw
    go_simp
  try simp only [Act.put, List.setIfInBounds_toArray, List.set_cons_zero, List.set_cons_succ]
  refine wpAnyH_take (i := 4) (oi := { dst := some 25, op := Op.load 5 (.tmp 24), type := 5, pos := "parse.go:114", after := #[{ on := 3, ground := Ground.data }], guard := none }) (v := (.int .u8 x0)) rfl (by kernel_rfl) (by kernel_rfl) (by kernel_rfl) (fun _ _ _ h => h) (Or.inl ⟨by rfl, ?_⟩) hHeld ?_
  · intro w9 hSw
    try dsimp only at hSw
    go_simp
  try simp only [Act.put, List.setIfInBounds_toArray, List.set_cons_zero, List.set_cons_succ]
  refine wpAnyH_take (i := 5) (oi := { dst := some 26, op := Op.convert 5 3 (.tmp 25), type := 3, pos := "parse.go:114", after := #[{ on := 4, ground := Ground.data }], guard := none }) (v := (.int .i64 x0)) rfl (by kernel_rfl) (by kernel_rfl) (by kernel_rfl) (fun _ _ _ h => h) (Or.inl ⟨by rfl, ?_⟩) hHeld ?_
  · intro w9 hSw
    try dsimp only at hSw
    go_simp
  try simp only [Act.put, List.setIfInBounds_toArray, List.set_cons_zero, List.set_cons_succ]
  refine wpAnyH_ready (rs := [6]) (by kernel_rfl) (by simp) ?_
  refine AllReadyH.cons (o := { dst := some 27, op := Op.call { callee := Callee.value (.func 64), args := #[.tmp 22, .tmp 26], argTypes := #[3, 3] }, type := 4, pos := "parse.go:114", after := #[{ on := 1, ground := Ground.data }, { on := 5, ground := Ground.data }], guard := none }) rfl (fun K hK => ?_) AllReadyH.nil
  go_simp
  refine Calls.mono (KE.out _) ?_
  rintro e W4 ⟨rfl, hW4⟩
  refine hK.out _ _ ?_ (fun hHeld => ?_)
  · rw [hW4]; exact ⟨y0, d0⟩
  clear hK K
  try simp only [Act.put, List.setIfInBounds_toArray, List.set_cons_zero, List.set_cons_succ]
  refine wpAnyH_done (by kernel_rfl) ?_ _
  refine NoPanic.normal ?_
  replace B1 := B1.drew
  replace B2 := B2.drew
  replace b2 := b2.drew
  rw [← hW4] at B1 B2 b2
  clear KE hW4
  go_wp2_with fail
  refine Calls.mono (K2.out _ (h.below b2)) ?_
  rintro e W3 ⟨rfl, bb⟩
  have B3 := B1.kept bb
  have B3' := B2.kept bb
  have b3 : Below w.heap.size w W3 := b2.trans (bb.mono b2.size)
  clear bb B1 B2 b2 hW1 d0 d1 d2 d3 d4 d5 d6 d7 d8 d9
  try clear K1
  go_wp2_with fail
  refine Calls.mono (K2.out _ (h.below b3)) ?_
  rintro e W4 ⟨rfl, bb⟩
  have B4 := B3.kept bb
  have B4' := B3'.kept bb
  have b4 : Below w.heap.size w W4 := b3.trans (bb.mono b3.size)
  clear K2 bb B3 B3' b3
  have d8 := B4.cell 8 (.int .i64 0) rfl
  have d9 := B4.cell 9 (.int .i64 0) rfl
  have z8 := B4.frozen 8
  have z9 := B4.frozen 9
  have ne : W1.heap.size ≠ w.heap.size := by omega
  have B3 := (B4.put 8 (.int .i64 p1)).put 9 (.int .i64 p1)
  have B3' := (B4'.put_other B4 ne 8 (.int .i64 p1)).put_other (B4.put 8 (.int .i64 p1)) ne 9 (.int .i64 p1)
  have b3 := (b4.setCell (p := ⟨w.heap.size, 8, none⟩) (Nat.le_refl _) (.int .i64 p1)).setCell (p := ⟨w.heap.size, 9, none⟩) (Nat.le_refl _) (.int .i64 p1)
  replace B3 : Blk _ w.heap.size 26 #[.int .i64 f, .int .i64 pr, .int .i64 sf, .int .u64 sh, .int .u64 sl, .int .i64 df, .int .u64 dh, .int .u64 dl, .int .i64 p1, .int .i64 p1] := B3
  clear B4 B4' b4 ne
  have Bf := B3'.set #[.int .i64 f, .int .i64 pr, .int .i64 sf, .int .u64 sh, .int .u64 sl, .int .i64 df, .int .u64 dh, .int .u64 dl, .int .i64 p1, .int .i64 p1]
  have bf := below_setRow b3 (Nat.le_of_lt g1) #[.int .i64 f, .int .i64 pr, .int .i64 sf, .int .u64 sh, .int .u64 sl, .int .i64 df, .int .u64 dh, .int .u64 dl, .int .i64 p1, .int .i64 p1]
  go_wp2_with (first
    | (refine wpList_load_row rfl _ _ rfl w.heap.size (by rfl) _ _ _ _ B3 Try.underlying26 rfl (by kernel_rfl) ?_)
    | (refine wpList_store_row rfl _ _ _ rfl W1.heap.size #[.int .i64 f, .int .i64 pr, .int .i64 sf, .int .u64 sh, .int .u64 sl, .int .i64 df, .int .u64 dh, .int .u64 dl, .int .i64 p1, .int .i64 p1] (by rfl) (by rfl) _ _ B3' (by kernel_rfl) (by rfl) (by kernel_rfl) ?_))
  exact ret_cell (k := 4) Try.f82 (by kernel_rfl) Bf Try.underlying26 (by kernel_rfl) (by rfl) rfl ⟨rfl, bf⟩

set_option maxRecDepth 100000 in
set_option maxHeartbeats 4000000 in
theorem withPorts_mute (f pr sf sh sl df dh dl : Int) (a : Option Addr) (c : Nat) (l : List Int) (w : World) (h : Row w a l) (h8 : 8 ≤ l.length) (h6 : ¬ pr = 6) (h17 : ¬ pr = 17) (hi : pr = icmpOf f) (he : isEcho f (l.getD 0 0) = false) :
    Calls Try.prog 82 #[.agg #[.int .i64 f, .int .i64 pr, .int .i64 sf, .int .u64 sh, .int .u64 sl, .int .i64 df, .int .u64 dh, .int .u64 dl, .int .i64 0, .int .i64 0], .slice a l.length c] w fun e w' => e = .returned (.agg #[.int .i64 f, .int .i64 pr, .int .i64 sf, .int .u64 sh, .int .u64 sl, .int .i64 df, .int .u64 dh, .int .u64 dl, .int .i64 (portsOf f pr l).1, .int .i64 (portsOf f pr l).2]) ∧ Below w.heap.size w w' := by
  obtain ⟨V, hV⟩ : ∃ V, portsOf f pr l = V := ⟨_, rfl⟩
  have HV : Hid (portsOf f pr l = V) := hV
  rw [hV]
  clear hV
  obtain ⟨W1, hW1⟩ : ∃ W1, w.alloc (.cells #[.int .i64 f, .int .i64 pr, .int .i64 sf, .int .u64 sh, .int .u64 sl, .int .i64 df, .int .u64 dh, .int .u64 dl, .int .i64 0, .int .i64 0] 26) = W1 := ⟨_, rfl⟩
  obtain ⟨W2, hW2⟩ : ∃ W2, W1.alloc (.cells #[.int .i64 0, .int .i64 0, .int .i64 0, .int .u64 0, .int .u64 0, .int .i64 0, .int .u64 0, .int .u64 0, .int .i64 0, .int .i64 0] 26) = W2 := ⟨_, rfl⟩
  have b1 : Below w.heap.size w W1 := by rw [← hW1]; exact (Below.refl _ _).alloc (Nat.le_refl _) _
  have b2 : Below w.heap.size w W2 := by rw [← hW2]; exact b1.alloc b1.size _
  have B1' : Blk W1 w.heap.size 26 #[.int .i64 f, .int .i64 pr, .int .i64 sf, .int .u64 sh, .int .u64 sl, .int .i64 df, .int .u64 dh, .int .u64 dl, .int .i64 0, .int .i64 0] := by rw [← hW1]; exact blk_new _ _ _
  have B1 : Blk W2 w.heap.size 26 #[.int .i64 f, .int .i64 pr, .int .i64 sf, .int .u64 sh, .int .u64 sl, .int .i64 df, .int .u64 dh, .int .u64 dl, .int .i64 0, .int .i64 0] := by rw [← hW2]; exact B1'.alloc _
  have B2 : Blk W2 W1.heap.size 26 #[.int .i64 0, .int .i64 0, .int .i64 0, .int .u64 0, .int .u64 0, .int .i64 0, .int .u64 0, .int .u64 0, .int .i64 0, .int .i64 0] := by rw [← hW2]; exact blk_new _ _ _
  have g1 : w.heap.size < W1.heap.size := B1'.lt
  clear B1'
  have d0 := B1.cell 0 (.int .i64 f) rfl
  have d1 := B1.cell 1 (.int .i64 pr) rfl
  have d2 := B1.cell 2 (.int .i64 sf) rfl
  have d3 := B1.cell 3 (.int .u64 sh) rfl
  have d4 := B1.cell 4 (.int .u64 sl) rfl
  have d5 := B1.cell 5 (.int .i64 df) rfl
  have d6 := B1.cell 6 (.int .u64 dh) rfl
  have d7 := B1.cell 7 (.int .u64 dl) rfl
  have d8 := B1.cell 8 (.int .i64 0) rfl
  have d9 := B1.cell 9 (.int .i64 0) rfl
  have HX : Hid ((¬ pr = 6) ∧ (¬ pr = 17) ∧ pr = icmpOf f ∧ isEcho f (l.getD 0 0) = false) := ⟨h6, h17, hi, he⟩
  have h6' : (pr == 6) = false := by simpa using h6
  have h17' : (pr == 17) = false := by simpa using h17
  have KI : Hid (∀ W, Calls Try.prog 57 #[.int .i64 f] W _) := fun W => icmpOf_any f W
  clear h6 h17
  obtain ⟨I, hI⟩ : ∃ I, icmpOf f = I := ⟨_, rfl⟩
  rw [hI] at KI hi HX
  have HI : Hid (icmpOf f = I) := hI
  clear hI
  obtain ⟨x0, e0⟩ : ∃ x, l.getD 0 0 = x := ⟨_, rfl⟩
  have q0 := h.bytes.get 0
  rw [e0] at q0 he
  obtain ⟨bk, off, rfl, hcl⟩ := h.cells (by omega)
  have y0 := kept (b := bk) (o := off + 0) b2 (hcl 0 (by omega))
  rw [e0, Nat.add_zero] at y0
  clear hcl e0
  have wx0 : IntKind.i64.wrap x0 = x0 := wraps_i64 _ (by omega) (by omega)
  have i0 : (0 : Int) < (l.length : Int) := by omega
  have hne : ¬ l = [] := by intro e; rw [e] at h8; simp at h8
  have KE : Hid (∀ W, Calls Try.prog 64 #[.int .i64 f, .int .i64 x0] W _) := fun W => isEcho_any f x0 W
  rw [he] at KE
  clear he
  have e : V = (0, 0) := by
    rw [← HV.out]
    obtain ⟨z1, z2, z3, z4⟩ := HX.out
    unfold portsOf
    rw [if_neg z1, if_neg z2, HI.out, if_pos z3, if_neg (by rw [z4]; decide)]
  subst e
  clear HV HX HI
  subst hi
  go_enter Try.func82, Try.ntmps82
  go_wp2_with fail
  refine Calls.mono (KI.out _) ?_
  rintro e W3 ⟨rfl, hW3⟩
  subst hW3
  clear KI
  go_wp2_with fail
  refine wp_region_noPanic ?_
  refine wp_region_held_drew (S := fun w' => w'.cell? ⟨bk, off, none⟩ = some (.int .u8 x0) ∧ w'.cell? ⟨w.heap.size, 0, none⟩ = some (.int .i64 f)) (by kernel_rfl) (by exact ⟨y0, d0⟩) (fun hHeld => ?_)
  refine wpAnyH_take (i := 0) (oi := { dst := some 21, op := Op.fieldAddr 26 (.tmp 2) 0, type := 0, pos := "parse.go:114", after := #[], guard := none }) (v := (.pointer (some ⟨w.heap.size, 0, none⟩))) rfl (by kernel_rfl) (by kernel_rfl) (by kernel_rfl) (fun _ _ _ h => h) (Or.inl ⟨by rfl, ?_⟩) hHeld ?_
  · intro w9 hSw
    try dsimp only at hSw
    go_simp
  try simp only [Act.put, List.setIfInBounds_toArray, List.set_cons_zero, List.set_cons_succ]
  refine wpAnyH_take (i := 1) (oi := { dst := some 22, op := Op.load 3 (.tmp 21), type := 3, pos := "parse.go:114", after := #[{ on := 0, ground := Ground.data }], guard := none }) (v := (.int .i64 f)) rfl (by kernel_rfl) (by kernel_rfl) (by kernel_rfl) (fun _ _ _ h => h) (Or.inl ⟨by rfl, ?_⟩) hHeld ?_
  · intro w9 hSw
    try dsimp only at hSw
    go_simp
  try simp only [Act.put, List.setIfInBounds_toArray, List.set_cons_zero, List.set_cons_succ]
  refine wpAnyH_take (i := 2) (oi := { dst := some 23, op := Op.move (.tmp 1), type := 28, pos := "parse.go:114", after := #[], guard := none }) (v := (.slice (some ⟨bk, off, none⟩) l.length c)) rfl (by kernel_rfl) (by kernel_rfl) (by kernel_rfl) (fun _ _ _ h => h) (Or.inl ⟨by rfl, ?_⟩) hHeld ?_
  · intro w9 hSw
    try dsimp only at hSw
    go_simp
  try simp only [Act.put, List.setIfInBounds_toArray, List.set_cons_zero, List.set_cons_succ]
  refine wpAnyH_take (i := 3) (oi := { dst := some 24, op := Op.indexAddr 28 (.tmp 23) (.const (.int .i64 0)), type := 0, pos := "parse.go:114", after := #[{ on := 2, ground := Ground.data }], guard := none }) (v := (.pointer (some ⟨bk, off, none⟩))) rfl (by kernel_rfl) (by kernel_rfl) (by kernel_rfl) (fun _ _ _ h => h) (Or.inl ⟨by rfl, ?_⟩) hHeld ?_
  · intro w9 hSw
    try dsimp only at hSw
    go_simp
  try simp only [Act.put, List.setIfInBounds_toArray, List.set_cons_zero, List.set_cons_succ]
  refine wpAnyH_take (i := 4) (oi := { dst := some 25, op := Op.load 5 (.tmp 24), type := 5, pos := "parse.go:114", after := #[{ on := 3, ground := Ground.data }], guard := none }) (v := (.int .u8 x0)) rfl (by kernel_rfl) (by kernel_rfl) (by kernel_rfl) (fun _ _ _ h => h) (Or.inl ⟨by rfl, ?_⟩) hHeld ?_
  · intro w9 hSw
    try dsimp only at hSw
    go_simp
  try simp only [Act.put, List.setIfInBounds_toArray, List.set_cons_zero, List.set_cons_succ]
  refine wpAnyH_take (i := 5) (oi := { dst := some 26, op := Op.convert 5 3 (.tmp 25), type := 3, pos := "parse.go:114", after := #[{ on := 4, ground := Ground.data }], guard := none }) (v := (.int .i64 x0)) rfl (by kernel_rfl) (by kernel_rfl) (by kernel_rfl) (fun _ _ _ h => h) (Or.inl ⟨by rfl, ?_⟩) hHeld ?_
  · intro w9 hSw
    try dsimp only at hSw
    go_simp
  try simp only [Act.put, List.setIfInBounds_toArray, List.set_cons_zero, List.set_cons_succ]
  refine wpAnyH_ready (rs := [6]) (by kernel_rfl) (by simp) ?_
  refine AllReadyH.cons (o := { dst := some 27, op := Op.call { callee := Callee.value (.func 64), args := #[.tmp 22, .tmp 26], argTypes := #[3, 3] }, type := 4, pos := "parse.go:114", after := #[{ on := 1, ground := Ground.data }, { on := 5, ground := Ground.data }], guard := none }) rfl (fun K hK => ?_) AllReadyH.nil
  go_simp
  refine Calls.mono (KE.out _) ?_
  rintro e W4 ⟨rfl, hW4⟩
  refine hK.out _ _ ?_ (fun hHeld => ?_)
  · rw [hW4]; exact ⟨y0, d0⟩
  clear hK K
  try simp only [Act.put, List.setIfInBounds_toArray, List.set_cons_zero, List.set_cons_succ]
  refine wpAnyH_done (by kernel_rfl) ?_ _
  refine NoPanic.normal ?_
  replace B1 := B1.drew
  replace B2 := B2.drew
  replace b2 := b2.drew
  rw [← hW4] at B1 B2 b2
  clear KE hW4
  have B3 := B1
  have B3' := B2
  have b3 := b2
  have Bf := B3'.set #[.int .i64 f, .int .i64 pr, .int .i64 sf, .int .u64 sh, .int .u64 sl, .int .i64 df, .int .u64 dh, .int .u64 dl, .int .i64 0, .int .i64 0]
  have bf := below_setRow b3 (Nat.le_of_lt g1) #[.int .i64 f, .int .i64 pr, .int .i64 sf, .int .u64 sh, .int .u64 sl, .int .i64 df, .int .u64 dh, .int .u64 dl, .int .i64 0, .int .i64 0]
  go_wp2_with (first
    | (refine wpList_load_row rfl _ _ rfl w.heap.size (by rfl) _ _ _ _ B3 Try.underlying26 rfl (by kernel_rfl) ?_)
    | (refine wpList_store_row rfl _ _ _ rfl W1.heap.size #[.int .i64 f, .int .i64 pr, .int .i64 sf, .int .u64 sh, .int .u64 sl, .int .i64 df, .int .u64 dh, .int .u64 dl, .int .i64 0, .int .i64 0] (by rfl) (by rfl) _ _ B3' (by kernel_rfl) (by rfl) (by kernel_rfl) ?_))
  exact ret_cell (k := 4) Try.f82 (by kernel_rfl) Bf Try.underlying26 (by kernel_rfl) (by rfl) rfl ⟨rfl, bf⟩

set_option maxRecDepth 100000 in
set_option maxHeartbeats 4000000 in
theorem withPorts_none (f pr sf sh sl df dh dl : Int) (a : Option Addr) (c : Nat) (l : List Int) (w : World) (h : Row w a l) (h8 : 8 ≤ l.length) (h6 : ¬ pr = 6) (h17 : ¬ pr = 17) (hi : ¬ pr = icmpOf f) :
    Calls Try.prog 82 #[.agg #[.int .i64 f, .int .i64 pr, .int .i64 sf, .int .u64 sh, .int .u64 sl, .int .i64 df, .int .u64 dh, .int .u64 dl, .int .i64 0, .int .i64 0], .slice a l.length c] w fun e w' => e = .returned (.agg #[.int .i64 f, .int .i64 pr, .int .i64 sf, .int .u64 sh, .int .u64 sl, .int .i64 df, .int .u64 dh, .int .u64 dl, .int .i64 (portsOf f pr l).1, .int .i64 (portsOf f pr l).2]) ∧ Below w.heap.size w w' := by
  obtain ⟨V, hV⟩ : ∃ V, portsOf f pr l = V := ⟨_, rfl⟩
  have HV : Hid (portsOf f pr l = V) := hV
  rw [hV]
  clear hV
  obtain ⟨W1, hW1⟩ : ∃ W1, w.alloc (.cells #[.int .i64 f, .int .i64 pr, .int .i64 sf, .int .u64 sh, .int .u64 sl, .int .i64 df, .int .u64 dh, .int .u64 dl, .int .i64 0, .int .i64 0] 26) = W1 := ⟨_, rfl⟩
  obtain ⟨W2, hW2⟩ : ∃ W2, W1.alloc (.cells #[.int .i64 0, .int .i64 0, .int .i64 0, .int .u64 0, .int .u64 0, .int .i64 0, .int .u64 0, .int .u64 0, .int .i64 0, .int .i64 0] 26) = W2 := ⟨_, rfl⟩
  have b1 : Below w.heap.size w W1 := by rw [← hW1]; exact (Below.refl _ _).alloc (Nat.le_refl _) _
  have b2 : Below w.heap.size w W2 := by rw [← hW2]; exact b1.alloc b1.size _
  have B1' : Blk W1 w.heap.size 26 #[.int .i64 f, .int .i64 pr, .int .i64 sf, .int .u64 sh, .int .u64 sl, .int .i64 df, .int .u64 dh, .int .u64 dl, .int .i64 0, .int .i64 0] := by rw [← hW1]; exact blk_new _ _ _
  have B1 : Blk W2 w.heap.size 26 #[.int .i64 f, .int .i64 pr, .int .i64 sf, .int .u64 sh, .int .u64 sl, .int .i64 df, .int .u64 dh, .int .u64 dl, .int .i64 0, .int .i64 0] := by rw [← hW2]; exact B1'.alloc _
  have B2 : Blk W2 W1.heap.size 26 #[.int .i64 0, .int .i64 0, .int .i64 0, .int .u64 0, .int .u64 0, .int .i64 0, .int .u64 0, .int .u64 0, .int .i64 0, .int .i64 0] := by rw [← hW2]; exact blk_new _ _ _
  have g1 : w.heap.size < W1.heap.size := B1'.lt
  clear B1'
  have d0 := B1.cell 0 (.int .i64 f) rfl
  have d1 := B1.cell 1 (.int .i64 pr) rfl
  have d2 := B1.cell 2 (.int .i64 sf) rfl
  have d3 := B1.cell 3 (.int .u64 sh) rfl
  have d4 := B1.cell 4 (.int .u64 sl) rfl
  have d5 := B1.cell 5 (.int .i64 df) rfl
  have d6 := B1.cell 6 (.int .u64 dh) rfl
  have d7 := B1.cell 7 (.int .u64 dl) rfl
  have d8 := B1.cell 8 (.int .i64 0) rfl
  have d9 := B1.cell 9 (.int .i64 0) rfl
  have h6' : (pr == 6) = false := by simpa using h6
  have h17' : (pr == 17) = false := by simpa using h17
  have KI : Hid (∀ W, Calls Try.prog 57 #[.int .i64 f] W _) := fun W => icmpOf_any f W
  have e : V = (0, 0) := by
    rw [← HV.out]
    unfold portsOf
    rw [if_neg h6, if_neg h17, if_neg hi]
  subst e
  have hi' : (pr == icmpOf f) = false := by simpa using hi
  generalize icmpOf f = I at *
  clear HV hi h6 h17
  go_enter Try.func82, Try.ntmps82
  go_wp2_with fail
  refine Calls.mono (KI.out _) ?_
  rintro e W3 ⟨rfl, hW3⟩
  subst hW3
  clear KI
  have B3 := B1
  have B3' := B2
  have b3 := b2
  have Bf := B3'.set #[.int .i64 f, .int .i64 pr, .int .i64 sf, .int .u64 sh, .int .u64 sl, .int .i64 df, .int .u64 dh, .int .u64 dl, .int .i64 0, .int .i64 0]
  have bf := below_setRow b3 (Nat.le_of_lt g1) #[.int .i64 f, .int .i64 pr, .int .i64 sf, .int .u64 sh, .int .u64 sl, .int .i64 df, .int .u64 dh, .int .u64 dl, .int .i64 0, .int .i64 0]
  go_wp2_with (first
    | (refine wpList_load_row rfl _ _ rfl w.heap.size (by rfl) _ _ _ _ B3 Try.underlying26 rfl (by kernel_rfl) ?_)
    | (refine wpList_store_row rfl _ _ _ rfl W1.heap.size #[.int .i64 f, .int .i64 pr, .int .i64 sf, .int .u64 sh, .int .u64 sl, .int .i64 df, .int .u64 dh, .int .u64 dl, .int .i64 0, .int .i64 0] (by rfl) (by rfl) _ _ B3' (by kernel_rfl) (by rfl) (by kernel_rfl) ?_))
  exact ret_cell (k := 4) Try.f82 (by kernel_rfl) Bf Try.underlying26 (by kernel_rfl) (by rfl) rfl ⟨rfl, bf⟩

theorem withPorts_any (f pr sf sh sl df dh dl : Int) (a : Option Addr) (c : Nat) (l : List Int) (w : World) (h : Row w a l) (h8 : 8 ≤ l.length) :
    Calls Try.prog 82 #[.agg #[.int .i64 f, .int .i64 pr, .int .i64 sf, .int .u64 sh, .int .u64 sl, .int .i64 df, .int .u64 dh, .int .u64 dl, .int .i64 0, .int .i64 0], .slice a l.length c] w fun e w' => e = .returned (.agg #[.int .i64 f, .int .i64 pr, .int .i64 sf, .int .u64 sh, .int .u64 sl, .int .i64 df, .int .u64 dh, .int .u64 dl, .int .i64 (portsOf f pr l).1, .int .i64 (portsOf f pr l).2]) ∧ Below w.heap.size w w' := by
  by_cases h6 : pr = 6
  · exact withPorts_6 f pr sf sh sl df dh dl a c l w h h8 h6
  by_cases h17 : pr = 17
  · exact withPorts_17 f pr sf sh sl df dh dl a c l w h h8 h6 h17
  by_cases hi : pr = icmpOf f
  · cases he : isEcho f (l.getD 0 0) with
    | true => exact withPorts_echo f pr sf sh sl df dh dl a c l w h h8 h6 h17 hi he
    | false => exact withPorts_mute f pr sf sh sl df dh dl a c l w h h8 h6 h17 hi he
  · exact withPorts_none f pr sf sh sl df dh dl a c l w h h8 h6 h17 hi

end Go.Proofs.Ytgdpcomcndidcaa

namespace Go.Proofs.Ytgdpcomcndidcaa
open Go.RowKit
set_option linter.unusedVariables false
set_option linter.unusedSimpArgs false

theorem Ad.bytes_le (a : Ad) : a.bytes.length ≤ 16 := by
  unfold Ad.bytes
  split
  · rw [bytesGo_length]; split <;> omega
  · simp
theorem wrapU8 (x : Int) : IntKind.u8.wrap x = x % 256 := by rw [IntKind.wrap_u8]
theorem wrapU32 (x : Int) : IntKind.u32.wrap x = x % 4294967296 := by rw [IntKind.wrap_u32]
theorem bytes_two (p : Int) : M.Bytes [0, p % 256] := by
  intro x hx
  simp at hx
  rcases hx with rfl | rfl <;> omega
theorem bytes_four (p : Int) : M.Bytes [0, 0, 0, p % 256] := by
  intro x hx
  simp at hx
  rcases hx with rfl | rfl <;> omega

set_option maxRecDepth 100000 in
set_option maxHeartbeats 4000000 in
theorem pseudo_no (sf sh sl df dh dl pr sz : Int) (w : World) (ho : Ad.ok ⟨sf, sh, sl⟩) (ho' : Ad.ok ⟨df, dh, dl⟩) (hE : endsB sf ⟨sf, sh, sl⟩ ⟨df, dh, dl⟩ = false) :
    Calls Try.prog 11 #[.agg #[.int .i64 sf, .int .u64 sh, .int .u64 sl], .agg #[.int .i64 df, .int .u64 dh, .int .u64 dl], .int .i64 pr, .int .i64 sz] w fun e w' => ∃ a c, e = .returned (.slice a (pseudo ⟨sf, sh, sl⟩ ⟨df, dh, dl⟩ pr sz).length c) ∧ Fresh w w' a c (pseudo ⟨sf, sh, sl⟩ ⟨df, dh, dl⟩ pr sz) := by
  obtain ⟨W1, hW1⟩ : ∃ W1, w.alloc (.cells #[.int .i64 sf, .int .u64 sh, .int .u64 sl] 24) = W1 := ⟨_, rfl⟩
  obtain ⟨W2, hW2⟩ : ∃ W2, W1.alloc (.cells #[.int .i64 df, .int .u64 dh, .int .u64 dl] 24) = W2 := ⟨_, rfl⟩
  have b1 : Below w.heap.size w W1 := by rw [← hW1]; exact (Below.refl _ _).alloc (Nat.le_refl _) _
  have b2 : Below w.heap.size w W2 := by rw [← hW2]; exact b1.alloc b1.size _
  have B1' : Blk W1 w.heap.size 24 #[.int .i64 sf, .int .u64 sh, .int .u64 sl] := by rw [← hW1]; exact blk_new _ _ _
  have B1 : Blk W2 w.heap.size 24 #[.int .i64 sf, .int .u64 sh, .int .u64 sl] := by rw [← hW2]; exact B1'.alloc _
  have B2 : Blk W2 W1.heap.size 24 #[.int .i64 df, .int .u64 dh, .int .u64 dl] := by rw [← hW2]; exact blk_new _ _ _
  have g1 : w.heap.size < W1.heap.size := B1'.lt
  clear B1'
  have c0 := B1.cell 0 (.int .i64 sf) rfl
  have c1 := B1.cell 1 (.int .u64 sh) rfl
  have c2 := B1.cell 2 (.int .u64 sl) rfl
  have d0 := B2.cell 0 (.int .i64 df) rfl
  have d1 := B2.cell 1 (.int .u64 dh) rfl
  have d2 := B2.cell 2 (.int .u64 dl) rfl
  have K0 := ofFamily_any sf sf sh sl df dh dl W2
  rw [hE] at K0
  have K0 : Hid _ := K0
  obtain ⟨L, hL⟩ : ∃ L, pseudo ⟨sf, sh, sl⟩ ⟨df, dh, dl⟩ pr sz = L := ⟨_, rfl⟩
  rw [hL]
  unfold pseudo at hL
  rw [hE] at hL
  rw [if_neg (by decide)] at hL
  subst hL
  go_enter Try.func11, Try.ntmps11
  go_wp2_with fail
  refine Calls.mono K0.out ?_
  rintro e W3 ⟨rfl, bb⟩
  have b3 : Below w.heap.size w W3 := b2.trans (bb.mono b2.size)
  have B3 := B1.kept bb
  have B3' := B2.kept bb
  clear K0 bb B1 B2 b2 hW1 hW2 c0 c1 c2 d0 d1 d2
  go_wp2
  go_ret
  exact ⟨none, 0, rfl, fresh_nil b3⟩

set_option maxRecDepth 100000 in
set_option maxHeartbeats 4000000 in
theorem pseudo_4 (sf sh sl df dh dl pr sz : Int) (w : World) (ho : Ad.ok ⟨sf, sh, sl⟩) (ho' : Ad.ok ⟨df, dh, dl⟩) (hE : endsB sf ⟨sf, sh, sl⟩ ⟨df, dh, dl⟩ = true) (h4 : sf = 4) :
    Calls Try.prog 11 #[.agg #[.int .i64 sf, .int .u64 sh, .int .u64 sl], .agg #[.int .i64 df, .int .u64 dh, .int .u64 dl], .int .i64 pr, .int .i64 sz] w fun e w' => ∃ a c, e = .returned (.slice a (pseudo ⟨sf, sh, sl⟩ ⟨df, dh, dl⟩ pr sz).length c) ∧ Fresh w w' a c (pseudo ⟨sf, sh, sl⟩ ⟨df, dh, dl⟩ pr sz) := by
  obtain ⟨W1, hW1⟩ : ∃ W1, w.alloc (.cells #[.int .i64 sf, .int .u64 sh, .int .u64 sl] 24) = W1 := ⟨_, rfl⟩
  obtain ⟨W2, hW2⟩ : ∃ W2, W1.alloc (.cells #[.int .i64 df, .int .u64 dh, .int .u64 dl] 24) = W2 := ⟨_, rfl⟩
  have b1 : Below w.heap.size w W1 := by rw [← hW1]; exact (Below.refl _ _).alloc (Nat.le_refl _) _
  have b2 : Below w.heap.size w W2 := by rw [← hW2]; exact b1.alloc b1.size _
  have B1' : Blk W1 w.heap.size 24 #[.int .i64 sf, .int .u64 sh, .int .u64 sl] := by rw [← hW1]; exact blk_new _ _ _
  have B1 : Blk W2 w.heap.size 24 #[.int .i64 sf, .int .u64 sh, .int .u64 sl] := by rw [← hW2]; exact B1'.alloc _
  have B2 : Blk W2 W1.heap.size 24 #[.int .i64 df, .int .u64 dh, .int .u64 dl] := by rw [← hW2]; exact blk_new _ _ _
  have g1 : w.heap.size < W1.heap.size := B1'.lt
  clear B1'
  have c0 := B1.cell 0 (.int .i64 sf) rfl
  have c1 := B1.cell 1 (.int .u64 sh) rfl
  have c2 := B1.cell 2 (.int .u64 sl) rfl
  have d0 := B2.cell 0 (.int .i64 df) rfl
  have d1 := B2.cell 1 (.int .u64 dh) rfl
  have d2 := B2.cell 2 (.int .u64 dl) rfl
  have K0 := ofFamily_any sf sf sh sl df dh dl W2
  rw [hE] at K0
  have K0 : Hid _ := K0
  obtain ⟨L, hL⟩ : ∃ L, pseudo ⟨sf, sh, sl⟩ ⟨df, dh, dl⟩ pr sz = L := ⟨_, rfl⟩
  rw [hL]
  unfold pseudo at hL
  rw [hE] at hL
  rw [if_pos rfl] at hL
  unfold pseudoL at hL
  obtain ⟨SB, hSB⟩ : ∃ x, Ad.bytes ⟨sf, sh, sl⟩ = x := ⟨_, rfl⟩
  obtain ⟨DB, hDB⟩ : ∃ x, Ad.bytes ⟨df, dh, dl⟩ = x := ⟨_, rfl⟩
  obtain ⟨R, hR⟩ : ∃ x, SB ++ DB = x := ⟨_, rfl⟩
  have lR : R.length ≤ 32 := by
    have h1 := Ad.bytes_le ⟨sf, sh, sl⟩
    have h2 := Ad.bytes_le ⟨df, dh, dl⟩
    rw [hSB] at h1
    rw [hDB] at h2
    rw [← hR, List.length_append]
    omega
  have KB1 : Hid (∀ W, Calls Try.prog 25 #[.agg #[.int .i64 sf, .int .u64 sh, .int .u64 sl]] W fun e w' => ∃ a c, e = .returned (.slice a SB.length c) ∧ Fresh W w' a c SB) := fun W => by
    have := bytes_any sf sh sl W ho
    rw [hSB] at this
    exact this
  have KB2 : Hid (∀ W, Calls Try.prog 25 #[.agg #[.int .i64 df, .int .u64 dh, .int .u64 dl]] W fun e w' => ∃ a c, e = .returned (.slice a DB.length c) ∧ Fresh W w' a c DB) := fun W => by
    have := bytes_any df dh dl W ho'
    rw [hDB] at this
    exact this
  rw [hSB, hDB, hR] at hL
  have HR : Hid (SB ++ DB = R) := hR
  clear hR hSB hDB hE
  rw [if_pos h4] at hL
  obtain ⟨R2, hR2⟩ : ∃ x, R ++ [0, pr % 256] = x := ⟨_, rfl⟩
  rw [hR2] at hL
  have lR2 : R2.length ≤ 34 := by rw [← hR2]; simp; omega
  have HR2 : Hid (R ++ [0, pr % 256] = R2) := hR2
  have HL : Hid (put16 R2 sz = L) := hL
  have wu := wrapU8 pr
  clear hR2 hL
  have h4' : (sf == 4) = true := by simpa using h4
  clear h4
  go_enter Try.func11, Try.ntmps11
  go_wp2_with fail
  refine Calls.mono K0.out ?_
  rintro e W3 ⟨rfl, bb⟩
  have b3 : Below w.heap.size w W3 := b2.trans (bb.mono b2.size)
  have B3 := B1.kept bb
  have B3' := B2.kept bb
  clear K0 bb B1 B2 b2 hW1 hW2 c0 c1 c2 d0 d1 d2
  go_wp2_with fail
  refine wp_region_noPanic ?_
  refine wp_region_held_drew (S := fun w' => Blk w' w.heap.size 24 #[.int .i64 sf, .int .u64 sh, .int .u64 sl] ∧ Blk w' W1.heap.size 24 #[.int .i64 df, .int .u64 dh, .int .u64 dl]) (by kernel_rfl) (by exact ⟨B3.drew, B3'.drew⟩) (fun hHeld => ?_)
  refine wpAnyH_take (i := 0) (oi := { dst := some 16, op := Op.load 24 (.tmp 4), type := 24, pos := "seg.go:30", after := #[], guard := none }) (v := (.agg #[.int .i64 sf, .int .u64 sh, .int .u64 sl])) rfl (by kernel_rfl) (by kernel_rfl) (by kernel_rfl) (fun _ _ _ h => h) (yieldsIf_blk rfl _ _ rfl w.heap.size (by rfl) _ (fun _ hSw => hSw.1) Try.underlying24 (by kernel_rfl)) hHeld ?_
  try simp only [Act.put, List.setIfInBounds_toArray, List.set_cons_zero, List.set_cons_succ]
  refine wpAnyH_take (i := 2) (oi := { dst := some 18, op := Op.load 24 (.tmp 5), type := 24, pos := "seg.go:30", after := #[], guard := none }) (v := (.agg #[.int .i64 df, .int .u64 dh, .int .u64 dl])) rfl (by kernel_rfl) (by kernel_rfl) (by kernel_rfl) (fun _ _ _ h => h) (yieldsIf_blk rfl _ _ rfl W1.heap.size (by rfl) _ (fun _ hSw => hSw.2) Try.underlying24 (by kernel_rfl)) hHeld ?_
  try simp only [Act.put, List.setIfInBounds_toArray, List.set_cons_zero, List.set_cons_succ]
  refine wpAnyH_ready (rs := [1]) (by kernel_rfl) (by simp) ?_
  refine AllReadyH.cons (o := { dst := some 17, op := Op.call { callee := Callee.value (.func 25), args := #[.tmp 16], argTypes := #[24] }, type := 28, pos := "seg.go:30", after := #[{ on := 0, ground := Ground.data }], guard := none }) rfl (fun K hK => ?_) AllReadyH.nil
  go_simp
  refine Calls.mono (KB1.out _) ?_
  rintro e W4 ⟨a4, c4, rfl, f4⟩
  have B4 := B3.drew.kept f4.below
  have B4' := B3'.drew.kept f4.below
  have b4 : Below w.heap.size w W4 := b3.drew.trans (f4.below.mono b3.drew.size)
  refine hK.out _ _ ?_ (fun hHeld => ?_)
  · exact ⟨B4, B4'⟩
  clear hK K
  try simp only [Act.put, List.setIfInBounds_toArray, List.set_cons_zero, List.set_cons_succ]
  refine wpAnyH_ready (rs := [3]) (by kernel_rfl) (by simp) ?_
  refine AllReadyH.cons (o := { dst := some 19, op := Op.call { callee := Callee.value (.func 25), args := #[.tmp 18], argTypes := #[24] }, type := 28, pos := "seg.go:30", after := #[{ on := 2, ground := Ground.data }, { on := 1, ground := Ground.chain }], guard := none }) rfl (fun K hK => ?_) AllReadyH.nil
  go_simp
  refine Calls.mono (KB2.out _) ?_
  rintro e W5 ⟨a5, c5, rfl, f5⟩
  have B5 := B4.kept f5.below
  have B5' := B4'.kept f5.below
  have b5 : Below w.heap.size w W5 := b4.trans (f5.below.mono b4.size)
  refine hK.out _ _ ?_ (fun hHeld => ?_)
  · exact ⟨B5, B5'⟩
  clear hK K
  try simp only [Act.put, List.setIfInBounds_toArray, List.set_cons_zero, List.set_cons_succ]
  refine wpAnyH_ready (rs := [4]) (by kernel_rfl) (by simp) ?_
  refine AllReadyH.cons (o := { dst := some 20, op := Op.buildSlice 74 2 #[(0, .tmp 17), (1, .tmp 19)], type := 74, pos := "seg.go:30", after := #[{ on := 1, ground := Ground.data }, { on := 3, ground := Ground.data }], guard := none }) rfl (fun K hK => ?_) AllReadyH.nil
  go_simp
  refine hK.out _ _ ?_ (fun hHeld => ?_)
  · exact ⟨B5.alloc _, B5'.alloc _⟩
  clear hK K
  try simp only [Act.put, List.setIfInBounds_toArray, List.set_cons_zero, List.set_cons_succ]
  refine wpAnyH_ready (rs := [5]) (by kernel_rfl) (by simp) ?_
  refine AllReadyH.cons (o := { dst := some 21, op := Op.call { callee := Callee.value (.func 24), args := #[.tmp 20], argTypes := #[74] }, type := 28, pos := "seg.go:30", after := #[{ on := 4, ground := Ground.data }, { on := 3, ground := Ground.chain }], guard := none }) rfl (fun K hK => ?_) AllReadyH.nil
  go_simp
  refine Calls.mono (concat2 W5 a4 a5 c4 c5 SB DB R (f4.row.below f5.below) f4.nil f5.row f5.nil HR.out (by omega)) ?_
  rintro e W6 ⟨a6, c6, rfl, f6⟩
  have B6 := B5.kept f6.below
  have B6' := B5'.kept f6.below
  have b6 : Below w.heap.size w W6 := b5.trans (f6.below.mono b5.size)
  refine hK.out _ _ ?_ (fun hHeld => ?_)
  · exact ⟨B6, B6'⟩
  clear hK K
  try simp only [Act.put, List.setIfInBounds_toArray, List.set_cons_zero, List.set_cons_succ]
  refine wpAnyH_take (i := 6) (oi := { dst := some 9, op := Op.assign (.tmp 21), type := 28, pos := "seg.go:30", after := #[{ on := 5, ground := Ground.data }, { on := 5, ground := Ground.chain }, { on := 0, ground := Ground.phase }, { on := 1, ground := Ground.phase }, { on := 2, ground := Ground.phase }, { on := 3, ground := Ground.phase }, { on := 4, ground := Ground.phase }, { on := 5, ground := Ground.phase }], guard := none }) (v := (.slice a6 R.length c6)) rfl (by kernel_rfl) (by kernel_rfl) (by kernel_rfl) (fun _ _ _ h => h) (Or.inl ⟨by rfl, ?_⟩) hHeld ?_
  · intro w9 hSw
    try dsimp only at hSw
    go_simp
  try simp only [Act.put, List.setIfInBounds_toArray, List.set_cons_zero, List.set_cons_succ]
  refine wpAnyH_done (by kernel_rfl) ?_ _
  refine NoPanic.normal ?_
  have e0 := B6.cell 0 (.int .i64 sf) rfl
  have OW := owns_le b5.size f6.owns
  have rb := f6.row.bytes
  clear KB1 KB2 HR f4 f5 f6 B3 B3' B4 B4' B5 B5' B6 B6' b3 b4 b5 hHeld
  go_wp2_with (at_builtin; refine wpList_app2 _ rfl _ _ rfl w.heap.size _ R rfl (OW.alloc _) rb _ 2 [0, pr % 256] rfl ?row (fun hh => by cases hh) R2 HR2.out ?c1 ?c2 ?_)
  case row => exact row_at W6 5 [0, pr % 256] W6.heap.size rfl (by simp) (bytes_two pr)
  case c1 => omega
  case c2 => exact Nat.le_trans b6.size (by simp)
  intro a7 c7 W7 o7 h7 n7 r7 bb _
  have b7 : Below w.heap.size w W7 := (b6.alloc b6.size _).trans bb
  have K7 := put16_any a7 c7 R2 sz W7 r7 n7 (by omega)
  rw [HL.out] at K7
  have K7 : Hid _ := K7
  clear HL bb OW o7 e0
  go_wp2_with fail
  refine Calls.mono K7.out ?_
  rintro e W8 ⟨a8, c8, rfl, f8⟩
  clear K7
  go_wp2
  go_ret
  exact ⟨a8, c8, rfl, owns_le b7.size f8.owns, f8.room, f8.nil, f8.row, b7.trans (f8.below.mono b7.size)⟩

set_option maxRecDepth 100000 in
set_option maxHeartbeats 4000000 in
theorem pseudo_6 (sf sh sl df dh dl pr sz : Int) (w : World) (ho : Ad.ok ⟨sf, sh, sl⟩) (ho' : Ad.ok ⟨df, dh, dl⟩) (hE : endsB sf ⟨sf, sh, sl⟩ ⟨df, dh, dl⟩ = true) (h4 : ¬ sf = 4) :
    Calls Try.prog 11 #[.agg #[.int .i64 sf, .int .u64 sh, .int .u64 sl], .agg #[.int .i64 df, .int .u64 dh, .int .u64 dl], .int .i64 pr, .int .i64 sz] w fun e w' => ∃ a c, e = .returned (.slice a (pseudo ⟨sf, sh, sl⟩ ⟨df, dh, dl⟩ pr sz).length c) ∧ Fresh w w' a c (pseudo ⟨sf, sh, sl⟩ ⟨df, dh, dl⟩ pr sz) := by
  obtain ⟨W1, hW1⟩ : ∃ W1, w.alloc (.cells #[.int .i64 sf, .int .u64 sh, .int .u64 sl] 24) = W1 := ⟨_, rfl⟩
  obtain ⟨W2, hW2⟩ : ∃ W2, W1.alloc (.cells #[.int .i64 df, .int .u64 dh, .int .u64 dl] 24) = W2 := ⟨_, rfl⟩
  have b1 : Below w.heap.size w W1 := by rw [← hW1]; exact (Below.refl _ _).alloc (Nat.le_refl _) _
  have b2 : Below w.heap.size w W2 := by rw [← hW2]; exact b1.alloc b1.size _
  have B1' : Blk W1 w.heap.size 24 #[.int .i64 sf, .int .u64 sh, .int .u64 sl] := by rw [← hW1]; exact blk_new _ _ _
  have B1 : Blk W2 w.heap.size 24 #[.int .i64 sf, .int .u64 sh, .int .u64 sl] := by rw [← hW2]; exact B1'.alloc _
  have B2 : Blk W2 W1.heap.size 24 #[.int .i64 df, .int .u64 dh, .int .u64 dl] := by rw [← hW2]; exact blk_new _ _ _
  have g1 : w.heap.size < W1.heap.size := B1'.lt
  clear B1'
  have c0 := B1.cell 0 (.int .i64 sf) rfl
  have c1 := B1.cell 1 (.int .u64 sh) rfl
  have c2 := B1.cell 2 (.int .u64 sl) rfl
  have d0 := B2.cell 0 (.int .i64 df) rfl
  have d1 := B2.cell 1 (.int .u64 dh) rfl
  have d2 := B2.cell 2 (.int .u64 dl) rfl
  have K0 := ofFamily_any sf sf sh sl df dh dl W2
  rw [hE] at K0
  have K0 : Hid _ := K0
  obtain ⟨L, hL⟩ : ∃ L, pseudo ⟨sf, sh, sl⟩ ⟨df, dh, dl⟩ pr sz = L := ⟨_, rfl⟩
  rw [hL]
  unfold pseudo at hL
  rw [hE] at hL
  rw [if_pos rfl] at hL
  unfold pseudoL at hL
  obtain ⟨SB, hSB⟩ : ∃ x, Ad.bytes ⟨sf, sh, sl⟩ = x := ⟨_, rfl⟩
  obtain ⟨DB, hDB⟩ : ∃ x, Ad.bytes ⟨df, dh, dl⟩ = x := ⟨_, rfl⟩
  obtain ⟨R, hR⟩ : ∃ x, SB ++ DB = x := ⟨_, rfl⟩
  have lR : R.length ≤ 32 := by
    have h1 := Ad.bytes_le ⟨sf, sh, sl⟩
    have h2 := Ad.bytes_le ⟨df, dh, dl⟩
    rw [hSB] at h1
    rw [hDB] at h2
    rw [← hR, List.length_append]
    omega
  have KB1 : Hid (∀ W, Calls Try.prog 25 #[.agg #[.int .i64 sf, .int .u64 sh, .int .u64 sl]] W fun e w' => ∃ a c, e = .returned (.slice a SB.length c) ∧ Fresh W w' a c SB) := fun W => by
    have := bytes_any sf sh sl W ho
    rw [hSB] at this
    exact this
  have KB2 : Hid (∀ W, Calls Try.prog 25 #[.agg #[.int .i64 df, .int .u64 dh, .int .u64 dl]] W fun e w' => ∃ a c, e = .returned (.slice a DB.length c) ∧ Fresh W w' a c DB) := fun W => by
    have := bytes_any df dh dl W ho'
    rw [hDB] at this
    exact this
  rw [hSB, hDB, hR] at hL
  have HR : Hid (SB ++ DB = R) := hR
  clear hR hSB hDB hE
  rw [if_neg h4] at hL
  obtain ⟨R2, hR2⟩ : ∃ x, put32 R (sz % 4294967296) = x := ⟨_, rfl⟩
  rw [hR2] at hL
  have lR2 : R2.length ≤ 36 := by rw [← hR2]; simp [put32]; omega
  have K32 : Hid (∀ W a c, Row W a R → (a = none → c = 0) → Calls Try.prog 27 #[.slice a R.length c, .int .u32 (sz % 4294967296)] W fun e w' => ∃ a' c', e = .returned (.slice a' R2.length c') ∧ Fresh W w' a' c' R2) := fun W a c hr hn => by
    have := put32_any a c R (sz % 4294967296) W hr hn (by omega) (by omega)
    rw [hR2] at this
    exact this
  have HL : Hid (R2 ++ [0, 0, 0, pr % 256] = L) := hL
  have lL : L.length ≤ 40 := by rw [← hL]; simp; omega
  have wu := wrapU8 pr
  have wz := wrapU32 sz
  have h4' : (sf == 4) = false := by simpa using h4
  clear hR2 hL h4
  go_enter Try.func11, Try.ntmps11
  go_wp2_with fail
  refine Calls.mono K0.out ?_
  rintro e W3 ⟨rfl, bb⟩
  have b3 : Below w.heap.size w W3 := b2.trans (bb.mono b2.size)
  have B3 := B1.kept bb
  have B3' := B2.kept bb
  clear K0 bb B1 B2 b2 hW1 hW2 c0 c1 c2 d0 d1 d2
  go_wp2_with fail
  refine wp_region_noPanic ?_
  refine wp_region_held_drew (S := fun w' => Blk w' w.heap.size 24 #[.int .i64 sf, .int .u64 sh, .int .u64 sl] ∧ Blk w' W1.heap.size 24 #[.int .i64 df, .int .u64 dh, .int .u64 dl]) (by kernel_rfl) (by exact ⟨B3.drew, B3'.drew⟩) (fun hHeld => ?_)
  refine wpAnyH_take (i := 0) (oi := { dst := some 16, op := Op.load 24 (.tmp 4), type := 24, pos := "seg.go:30", after := #[], guard := none }) (v := (.agg #[.int .i64 sf, .int .u64 sh, .int .u64 sl])) rfl (by kernel_rfl) (by kernel_rfl) (by kernel_rfl) (fun _ _ _ h => h) (yieldsIf_blk rfl _ _ rfl w.heap.size (by rfl) _ (fun _ hSw => hSw.1) Try.underlying24 (by kernel_rfl)) hHeld ?_
  try simp only [Act.put, List.setIfInBounds_toArray, List.set_cons_zero, List.set_cons_succ]
  refine wpAnyH_take (i := 2) (oi := { dst := some 18, op := Op.load 24 (.tmp 5), type := 24, pos := "seg.go:30", after := #[], guard := none }) (v := (.agg #[.int .i64 df, .int .u64 dh, .int .u64 dl])) rfl (by kernel_rfl) (by kernel_rfl) (by kernel_rfl) (fun _ _ _ h => h) (yieldsIf_blk rfl _ _ rfl W1.heap.size (by rfl) _ (fun _ hSw => hSw.2) Try.underlying24 (by kernel_rfl)) hHeld ?_
  try simp only [Act.put, List.setIfInBounds_toArray, List.set_cons_zero, List.set_cons_succ]
  refine wpAnyH_ready (rs := [1]) (by kernel_rfl) (by simp) ?_
  refine AllReadyH.cons (o := { dst := some 17, op := Op.call { callee := Callee.value (.func 25), args := #[.tmp 16], argTypes := #[24] }, type := 28, pos := "seg.go:30", after := #[{ on := 0, ground := Ground.data }], guard := none }) rfl (fun K hK => ?_) AllReadyH.nil
  go_simp
  refine Calls.mono (KB1.out _) ?_
  rintro e W4 ⟨a4, c4, rfl, f4⟩
  have B4 := B3.drew.kept f4.below
  have B4' := B3'.drew.kept f4.below
  have b4 : Below w.heap.size w W4 := b3.drew.trans (f4.below.mono b3.drew.size)
  refine hK.out _ _ ?_ (fun hHeld => ?_)
  · exact ⟨B4, B4'⟩
  clear hK K
  try simp only [Act.put, List.setIfInBounds_toArray, List.set_cons_zero, List.set_cons_succ]
  refine wpAnyH_ready (rs := [3]) (by kernel_rfl) (by simp) ?_
  refine AllReadyH.cons (o := { dst := some 19, op := Op.call { callee := Callee.value (.func 25), args := #[.tmp 18], argTypes := #[24] }, type := 28, pos := "seg.go:30", after := #[{ on := 2, ground := Ground.data }, { on := 1, ground := Ground.chain }], guard := none }) rfl (fun K hK => ?_) AllReadyH.nil
  go_simp
  refine Calls.mono (KB2.out _) ?_
  rintro e W5 ⟨a5, c5, rfl, f5⟩
  have B5 := B4.kept f5.below
  have B5' := B4'.kept f5.below
  have b5 : Below w.heap.size w W5 := b4.trans (f5.below.mono b4.size)
  refine hK.out _ _ ?_ (fun hHeld => ?_)
  · exact ⟨B5, B5'⟩
  clear hK K
  try simp only [Act.put, List.setIfInBounds_toArray, List.set_cons_zero, List.set_cons_succ]
  refine wpAnyH_ready (rs := [4]) (by kernel_rfl) (by simp) ?_
  refine AllReadyH.cons (o := { dst := some 20, op := Op.buildSlice 74 2 #[(0, .tmp 17), (1, .tmp 19)], type := 74, pos := "seg.go:30", after := #[{ on := 1, ground := Ground.data }, { on := 3, ground := Ground.data }], guard := none }) rfl (fun K hK => ?_) AllReadyH.nil
  go_simp
  refine hK.out _ _ ?_ (fun hHeld => ?_)
  · exact ⟨B5.alloc _, B5'.alloc _⟩
  clear hK K
  try simp only [Act.put, List.setIfInBounds_toArray, List.set_cons_zero, List.set_cons_succ]
  refine wpAnyH_ready (rs := [5]) (by kernel_rfl) (by simp) ?_
  refine AllReadyH.cons (o := { dst := some 21, op := Op.call { callee := Callee.value (.func 24), args := #[.tmp 20], argTypes := #[74] }, type := 28, pos := "seg.go:30", after := #[{ on := 4, ground := Ground.data }, { on := 3, ground := Ground.chain }], guard := none }) rfl (fun K hK => ?_) AllReadyH.nil
  go_simp
  refine Calls.mono (concat2 W5 a4 a5 c4 c5 SB DB R (f4.row.below f5.below) f4.nil f5.row f5.nil HR.out (by omega)) ?_
  rintro e W6 ⟨a6, c6, rfl, f6⟩
  have B6 := B5.kept f6.below
  have B6' := B5'.kept f6.below
  have b6 : Below w.heap.size w W6 := b5.trans (f6.below.mono b5.size)
  refine hK.out _ _ ?_ (fun hHeld => ?_)
  · exact ⟨B6, B6'⟩
  clear hK K
  try simp only [Act.put, List.setIfInBounds_toArray, List.set_cons_zero, List.set_cons_succ]
  refine wpAnyH_take (i := 6) (oi := { dst := some 9, op := Op.assign (.tmp 21), type := 28, pos := "seg.go:30", after := #[{ on := 5, ground := Ground.data }, { on := 5, ground := Ground.chain }, { on := 0, ground := Ground.phase }, { on := 1, ground := Ground.phase }, { on := 2, ground := Ground.phase }, { on := 3, ground := Ground.phase }, { on := 4, ground := Ground.phase }, { on := 5, ground := Ground.phase }], guard := none }) (v := (.slice a6 R.length c6)) rfl (by kernel_rfl) (by kernel_rfl) (by kernel_rfl) (fun _ _ _ h => h) (Or.inl ⟨by rfl, ?_⟩) hHeld ?_
  · intro w9 hSw
    try dsimp only at hSw
    go_simp
  try simp only [Act.put, List.setIfInBounds_toArray, List.set_cons_zero, List.set_cons_succ]
  refine wpAnyH_done (by kernel_rfl) ?_ _
  refine NoPanic.normal ?_
  have e0 := B6.cell 0 (.int .i64 sf) rfl
  have r6 := f6.row
  have n6 := f6.nil
  clear KB1 KB2 HR f4 f5 f6 B3 B3' B4 B4' B5 B5' B6 B6' b3 b4 b5 hHeld
  go_wp2_with fail
  refine Calls.mono (K32.out _ a6 c6 r6 n6) ?_
  rintro e W7 ⟨a7, c7, rfl, f7⟩
  have b7 : Below w.heap.size w W7 := b6.trans (f7.below.mono b6.size)
  have OW := owns_le b6.size f7.owns
  have rb := f7.row.bytes
  clear K32 f7 r6 n6 b6 e0
  go_wp2_with (at_builtin; refine wpList_app2 _ rfl _ _ rfl w.heap.size _ R2 rfl (OW.alloc _) rb _ 4 [0, 0, 0, pr % 256] rfl ?row (fun hh => by cases hh) L HL.out ?c1 ?c2 ?_)
  case row => exact row_at W7 5 [0, 0, 0, pr % 256] W7.heap.size rfl (by simp) (bytes_four pr)
  case c1 => omega
  case c2 => exact Nat.le_trans b7.size (by simp)
  intro a8 c8 W8 o8 h8 n8 r8 bb _
  have b8 : Below w.heap.size w W8 := (b7.alloc b7.size _).trans bb
  go_wp2
  go_ret
  exact ⟨a8, c8, rfl, o8, h8, n8, r8, b8⟩

theorem pseudo_any (sf sh sl df dh dl pr sz : Int) (w : World) (ho : Ad.ok ⟨sf, sh, sl⟩) (ho' : Ad.ok ⟨df, dh, dl⟩) :
    Calls Try.prog 11 #[.agg #[.int .i64 sf, .int .u64 sh, .int .u64 sl], .agg #[.int .i64 df, .int .u64 dh, .int .u64 dl], .int .i64 pr, .int .i64 sz] w fun e w' => ∃ a c, e = .returned (.slice a (pseudo ⟨sf, sh, sl⟩ ⟨df, dh, dl⟩ pr sz).length c) ∧ Fresh w w' a c (pseudo ⟨sf, sh, sl⟩ ⟨df, dh, dl⟩ pr sz) := by
  cases hE : endsB sf ⟨sf, sh, sl⟩ ⟨df, dh, dl⟩ with
  | false => exact pseudo_no sf sh sl df dh dl pr sz w ho ho' hE
  | true =>
    by_cases h4 : sf = 4
    · exact pseudo_4 sf sh sl df dh dl pr sz w ho ho' hE h4
    · exact pseudo_6 sf sh sl df dh dl pr sz w ho ho' hE h4

end Go.Proofs.Ytgdpcomcndidcaa

namespace Go.Proofs.Ytgdpcomcndidcaa
open Go.RowKit
set_option linter.unusedVariables false
set_option linter.unusedSimpArgs false

/-- Does the sum hold? -/
def sumsB (s d : Ad) (pr : Int) (m : List Int) : Bool := M.sumOf [ahead s d pr m.length, m] == 65535
set_option maxRecDepth 100000 in
set_option maxHeartbeats 4000000 in
theorem summed_any (f pr sf sh sl df dh dl sp dp sz : Int) (w : World) (ho : Ad.ok ⟨sf, sh, sl⟩) (ho' : Ad.ok ⟨df, dh, dl⟩) :
    Calls Try.prog 43 #[.agg #[.int .i64 f, .int .i64 pr, .int .i64 sf, .int .u64 sh, .int .u64 sl, .int .i64 df, .int .u64 dh, .int .u64 dl, .int .i64 sp, .int .i64 dp], .int .i64 sz] w fun e w' => ∃ a c, e = .returned (.slice a (ahead ⟨sf, sh, sl⟩ ⟨df, dh, dl⟩ pr sz).length c) ∧ Fresh w w' a c (ahead ⟨sf, sh, sl⟩ ⟨df, dh, dl⟩ pr sz) := by
  obtain ⟨W1, hW1⟩ : ∃ W1, w.alloc (.cells #[.int .i64 f, .int .i64 pr, .int .i64 sf, .int .u64 sh, .int .u64 sl, .int .i64 df, .int .u64 dh, .int .u64 dl, .int .i64 sp, .int .i64 dp] 26) = W1 := ⟨_, rfl⟩
  have b1 : Below w.heap.size w W1 := by rw [← hW1]; exact (Below.refl _ _).alloc (Nat.le_refl _) _
  have B1 : Blk W1 w.heap.size 26 #[.int .i64 f, .int .i64 pr, .int .i64 sf, .int .u64 sh, .int .u64 sl, .int .i64 df, .int .u64 dh, .int .u64 dl, .int .i64 sp, .int .i64 dp] := by rw [← hW1]; exact blk_new _ _ _
  have d0 := B1.cell 0 (.int .i64 f) rfl
  have d1 := B1.cell 1 (.int .i64 pr) rfl
  have d2 := B1.cell 2 (.int .i64 sf) rfl
  have d3 := B1.cell 3 (.int .u64 sh) rfl
  have d4 := B1.cell 4 (.int .u64 sl) rfl
  have d5 := B1.cell 5 (.int .i64 df) rfl
  have d6 := B1.cell 6 (.int .u64 dh) rfl
  have d7 := B1.cell 7 (.int .u64 dl) rfl
  have K := pseudo_any sf sh sl df dh dl pr sz W1 ho ho'
  unfold ahead
  by_cases h1 : pr = 1
  · rw [if_pos h1]
    have h1' : (pr == 1) = true := by simpa using h1
    clear K h1
    go_enter Try.func43, Try.ntmps43
    go_wp2
    go_ret
    exact ⟨none, 0, rfl, fresh_nil b1⟩
  · rw [if_neg h1]
    have h1' : (pr == 1) = false := by simpa using h1
    clear h1
    obtain ⟨L, hL⟩ : ∃ L, pseudo ⟨sf, sh, sl⟩ ⟨df, dh, dl⟩ pr sz = L := ⟨_, rfl⟩
    rw [hL] at K ⊢
    clear hL
    have K : Hid _ := K
    go_enter Try.func43, Try.ntmps43
    go_wp2_with fail
    refine Calls.mono K.out ?_
    rintro e W2 ⟨a2, c2, rfl, f2⟩
    clear K
    go_wp2
    go_ret
    exact ⟨a2, c2, rfl, owns_le b1.size f2.owns, f2.room, f2.nil, f2.row, b1.trans (f2.below.mono b1.size)⟩

set_option maxRecDepth 100000 in
set_option maxHeartbeats 4000000 in
theorem sumsUp_any (f sf sh sl df dh dl pr ho : Int) (fg : Bool) (id of : Int) (mo : Bool) (xa : Option Addr) (xn xc : Nat) (da : Option Addr) (dc : Nat) (l : List Int) (a : Option Addr) (c : Nat) (m : List Int) (w : World) (h : Row w a m) (hs : Ad.ok ⟨sf, sh, sl⟩) (hd : Ad.ok ⟨df, dh, dl⟩) :
    Calls Try.prog 67 #[.agg #[.int .i64 f, .int .i64 sf, .int .u64 sh, .int .u64 sl, .int .i64 df, .int .u64 dh, .int .u64 dl, .int .i64 pr, .int .i64 ho, .bool fg, .int .u32 id, .int .i64 of, .bool mo, .slice xa xn xc, .slice da l.length dc], .slice a m.length c] w fun e w' => e = .returned (.bool (sumsB ⟨sf, sh, sl⟩ ⟨df, dh, dl⟩ pr m)) ∧ Below w.heap.size w w' := by
  obtain ⟨W1, hW1⟩ : ∃ W1, w.alloc (.cells #[.int .i64 f, .int .i64 sf, .int .u64 sh, .int .u64 sl, .int .i64 df, .int .u64 dh, .int .u64 dl, .int .i64 pr, .int .i64 ho, .bool fg, .int .u32 id, .int .i64 of, .bool mo, .slice xa xn xc, .slice da l.length dc] 64) = W1 := ⟨_, rfl⟩
  have b1 : Below w.heap.size w W1 := by rw [← hW1]; exact (Below.refl _ _).alloc (Nat.le_refl _) _
  have B1 : Blk W1 w.heap.size 64 #[.int .i64 f, .int .i64 sf, .int .u64 sh, .int .u64 sl, .int .i64 df, .int .u64 dh, .int .u64 dl, .int .i64 pr, .int .i64 ho, .bool fg, .int .u32 id, .int .i64 of, .bool mo, .slice xa xn xc, .slice da l.length dc] := by rw [← hW1]; exact blk_new _ _ _
  have r1 := h.below b1
  obtain ⟨L, hL⟩ : ∃ L, ahead ⟨sf, sh, sl⟩ ⟨df, dh, dl⟩ pr m.length = L := ⟨_, rfl⟩
  have K1 : Hid _ := ends_any f sf sh sl df dh dl pr ho fg id of mo xa xn xc da dc l W1
  have K2 : Hid (∀ W, Calls Try.prog 43 #[.agg #[.int .i64 f, .int .i64 pr, .int .i64 sf, .int .u64 sh, .int .u64 sl, .int .i64 df, .int .u64 dh, .int .u64 dl, .int .i64 0, .int .i64 0], .int .i64 (m.length : Int)] W fun e w' => ∃ a c, e = .returned (.slice a L.length c) ∧ Fresh W w' a c L) := fun W => by
    have := summed_any f pr sf sh sl df dh dl 0 0 (m.length : Int) W hs hd
    rw [hL] at this
    exact this
  have K3 : Hid (∀ W a' c', Row W a' L → Row W a m → Calls Try.prog 65 #[.slice (some ⟨W.heap.size, 0, none⟩) 2 2] (W.alloc (.cells #[.slice a' L.length c', .slice a m.length c] 28)) fun e w' => e = .returned (.int .i64 (M.sumOf [L, m])) ∧ w' = W.alloc (.cells #[.slice a' L.length c', .slice a m.length c] 28)) := fun W a' c' h1 h2 =>
    sum_any _ 2 [L, m] _ (rowss_two W 28 W.heap.size rfl a' a c' c L m h1 h2)
  have e : sumsB ⟨sf, sh, sl⟩ ⟨df, dh, dl⟩ pr m = (M.sumOf [L, m] == 65535) := by unfold sumsB; rw [hL]
  rw [e]
  generalize M.sumOf [L, m] = SU at *
  clear hL e h
  go_enter Try.func67, Try.ntmps67
  go_wp2_with (refine wpList_load_row rfl _ _ rfl w.heap.size (by rfl) _ _ _ _ B1 Try.underlying64 rfl (by kernel_rfl) ?_)
  refine Calls.mono K1.out ?_
  rintro e W2 ⟨rfl, bb⟩
  have b2 : Below w.heap.size w W2 := b1.trans (bb.mono b1.size)
  have r2 := r1.below bb
  clear K1 bb b1 B1 r1 hW1
  go_wp2_with fail
  refine Calls.mono (K2.out _) ?_
  rintro e W3 ⟨a3, c3, rfl, f3⟩
  have b3 : Below w.heap.size w W3 := b2.trans (f3.below.mono b2.size)
  have r3 := r2.below f3.below
  have q3 := f3.row
  clear K2 f3 r2 b2
  go_wp2_with fail
  refine Calls.mono (K3.out _ _ _ q3 r3) ?_
  rintro e W4 ⟨rfl, hW4⟩
  have b4 : Below w.heap.size w W4 := by rw [hW4]; exact b3.alloc b3.size _
  clear K3 hW4 q3 r3
  go_wp2_with fail
  all_goals (go_ret; exact ⟨rfl, b4⟩)

set_option maxRecDepth 100000 in
set_option maxHeartbeats 4000000 in
theorem way_any (f sf sh sl df dh dl pr ho : Int) (fg : Bool) (id of : Int) (mo : Bool) (xa : Option Addr) (xn xc : Nat) (da : Option Addr) (dc : Nat) (l : List Int) (w : World) (h : Row w da l) (h8 : 8 ≤ l.length) :
    Calls Try.prog 70 #[.agg #[.int .i64 f, .int .i64 sf, .int .u64 sh, .int .u64 sl, .int .i64 df, .int .u64 dh, .int .u64 dl, .int .i64 pr, .int .i64 ho, .bool fg, .int .u32 id, .int .i64 of, .bool mo, .slice xa xn xc, .slice da l.length dc]] w fun e w' => e = .returned (.agg #[.int .i64 f, .int .i64 pr, .int .i64 sf, .int .u64 sh, .int .u64 sl, .int .i64 df, .int .u64 dh, .int .u64 dl, .int .i64 (portsOf f pr l).1, .int .i64 (portsOf f pr l).2]) ∧ Below w.heap.size w w' := by
  obtain ⟨W1, hW1⟩ : ∃ W1, w.alloc (.cells #[.int .i64 f, .int .i64 sf, .int .u64 sh, .int .u64 sl, .int .i64 df, .int .u64 dh, .int .u64 dl, .int .i64 pr, .int .i64 ho, .bool fg, .int .u32 id, .int .i64 of, .bool mo, .slice xa xn xc, .slice da l.length dc] 64) = W1 := ⟨_, rfl⟩
  obtain ⟨W2, hW2⟩ : ∃ W2, W1.alloc (.cells #[.int .i64 0, .int .i64 0, .int .i64 0, .int .u64 0, .int .u64 0, .int .i64 0, .int .u64 0, .int .u64 0, .int .i64 0, .int .i64 0] 26) = W2 := ⟨_, rfl⟩
  have b1 : Below w.heap.size w W1 := by rw [← hW1]; exact (Below.refl _ _).alloc (Nat.le_refl _) _
  have b2 : Below w.heap.size w W2 := by rw [← hW2]; exact b1.alloc b1.size _
  have B1' : Blk W1 w.heap.size 64 #[.int .i64 f, .int .i64 sf, .int .u64 sh, .int .u64 sl, .int .i64 df, .int .u64 dh, .int .u64 dl, .int .i64 pr, .int .i64 ho, .bool fg, .int .u32 id, .int .i64 of, .bool mo, .slice xa xn xc, .slice da l.length dc] := by rw [← hW1]; exact blk_new _ _ _
  have B1 : Blk W2 w.heap.size 64 #[.int .i64 f, .int .i64 sf, .int .u64 sh, .int .u64 sl, .int .i64 df, .int .u64 dh, .int .u64 dl, .int .i64 pr, .int .i64 ho, .bool fg, .int .u32 id, .int .i64 of, .bool mo, .slice xa xn xc, .slice da l.length dc] := by rw [← hW2]; exact B1'.alloc _
  have B2 : Blk W2 W1.heap.size 26 #[.int .i64 0, .int .i64 0, .int .i64 0, .int .u64 0, .int .u64 0, .int .i64 0, .int .u64 0, .int .u64 0, .int .i64 0, .int .i64 0] := by rw [← hW2]; exact blk_new _ _ _
  have g1 : w.heap.size < W1.heap.size := B1'.lt
  clear B1'
  have K1 : Hid (∀ W, Calls Try.prog 80 #[.agg #[.int .i64 f, .int .i64 sf, .int .u64 sh, .int .u64 sl, .int .i64 df, .int .u64 dh, .int .u64 dl, .int .i64 pr, .int .i64 ho, .bool fg, .int .u32 id, .int .i64 of, .bool mo, .slice xa xn xc, .slice da l.length dc]] W _) := fun W => ends_any f sf sh sl df dh dl pr ho fg id of mo xa xn xc da dc l W
  obtain ⟨V, hV⟩ : ∃ V, portsOf f pr l = V := ⟨_, rfl⟩
  have K2 : Hid (∀ W, Row W da l → Calls Try.prog 82 #[.agg #[.int .i64 f, .int .i64 pr, .int .i64 sf, .int .u64 sh, .int .u64 sl, .int .i64 df, .int .u64 dh, .int .u64 dl, .int .i64 0, .int .i64 0], .slice da l.length dc] W fun e w' => e = .returned (.agg #[.int .i64 f, .int .i64 pr, .int .i64 sf, .int .u64 sh, .int .u64 sl, .int .i64 df, .int .u64 dh, .int .u64 dl, .int .i64 V.1, .int .i64 V.2]) ∧ Below W.heap.size W w') := fun W hW => by
    have := withPorts_any f pr sf sh sl df dh dl da dc l W hW h8
    rw [hV] at this
    exact this
  rw [hV]
  clear hV
  have g2 : W1.heap.size ≠ w.heap.size := by omega
  go_enter Try.func70, Try.ntmps70
  go_wp2_with fail
  refine wp_region_noPanic ?_
  refine wp_region_held_drew (S := fun w' => Blk w' w.heap.size 64 #[.int .i64 f, .int .i64 sf, .int .u64 sh, .int .u64 sl, .int .i64 df, .int .u64 dh, .int .u64 dl, .int .i64 pr, .int .i64 ho, .bool fg, .int .u32 id, .int .i64 of, .bool mo, .slice xa xn xc, .slice da l.length dc] ∧ w'.cell? ⟨w.heap.size, 14, none⟩ = some (.slice da l.length dc)) (by kernel_rfl) (by exact ⟨B1.drew, B1.drew.cell 14 _ rfl⟩) (fun hHeld => ?_)
  refine wpAnyH_take (i := 0) (oi := { dst := some 3, op := Op.load 64 (.tmp 1), type := 64, pos := "parse.go:100", after := #[], guard := none }) (v := (.agg #[.int .i64 f, .int .i64 sf, .int .u64 sh, .int .u64 sl, .int .i64 df, .int .u64 dh, .int .u64 dl, .int .i64 pr, .int .i64 ho, .bool fg, .int .u32 id, .int .i64 of, .bool mo, .slice xa xn xc, .slice da l.length dc])) rfl (by kernel_rfl) (by kernel_rfl) (by kernel_rfl) (fun _ _ _ h => h) (yieldsIf_blk rfl _ _ rfl w.heap.size (by rfl) _ (fun _ hSw => hSw.1) Try.underlying64 (by kernel_rfl)) hHeld ?_
  try simp only [Act.put, List.setIfInBounds_toArray, List.set_cons_zero, List.set_cons_succ]
  refine wpAnyH_take (i := 2) (oi := { dst := some 5, op := Op.fieldAddr 64 (.tmp 1) 10, type := 0, pos := "parse.go:100", after := #[], guard := none }) (v := (.pointer (some ⟨w.heap.size, 14, none⟩))) rfl (by kernel_rfl) (by kernel_rfl) (by kernel_rfl) (fun _ _ _ h => h) (Or.inl ⟨by rfl, ?_⟩) hHeld ?_
  · intro w9 hSw
    try dsimp only at hSw
    go_simp
  try simp only [Act.put, List.setIfInBounds_toArray, List.set_cons_zero, List.set_cons_succ]
  refine wpAnyH_take (i := 3) (oi := { dst := some 6, op := Op.load 28 (.tmp 5), type := 28, pos := "parse.go:100", after := #[{ on := 2, ground := Ground.data }], guard := none }) (v := (.slice da l.length dc)) rfl (by kernel_rfl) (by kernel_rfl) (by kernel_rfl) (fun _ _ _ h => h) (Or.inl ⟨by rfl, ?_⟩) hHeld ?_
  · intro w9 hSw
    try dsimp only at hSw
    go_simp
  try simp only [Act.put, List.setIfInBounds_toArray, List.set_cons_zero, List.set_cons_succ]
  refine wpAnyH_ready (rs := [1]) (by kernel_rfl) (by simp) ?_
  refine AllReadyH.cons (o := { dst := some 4, op := Op.call { callee := Callee.value (.func 80), args := #[.tmp 3], argTypes := #[64] }, type := 26, pos := "parse.go:100", after := #[{ on := 0, ground := Ground.data }], guard := none }) rfl (fun K hK => ?_) AllReadyH.nil
  go_simp
  refine Calls.mono (K1.out _) ?_
  rintro e W3 ⟨rfl, bb⟩
  have B3 := B1.drew.kept bb
  have B3' := B2.drew.kept bb
  have b3 : Below w.heap.size w W3 := b2.drew.trans (bb.mono b2.drew.size)
  refine hK.out _ _ ?_ (fun hHeld => ?_)
  · exact ⟨B3, B3.cell 14 _ rfl⟩
  clear hK K
  try simp only [Act.put, List.setIfInBounds_toArray, List.set_cons_zero, List.set_cons_succ]
  refine wpAnyH_ready (rs := [4]) (by kernel_rfl) (by simp) ?_
  refine AllReadyH.cons (o := { dst := some 7, op := Op.call { callee := Callee.value (.func 82), args := #[.tmp 4, .tmp 6], argTypes := #[26, 28] }, type := 26, pos := "parse.go:100", after := #[{ on := 1, ground := Ground.data }, { on := 3, ground := Ground.data }, { on := 1, ground := Ground.chain }], guard := none }) rfl (fun K hK => ?_) AllReadyH.nil
  go_simp
  refine Calls.mono (K2.out _ (h.below b3)) ?_
  rintro e W4 ⟨rfl, bb⟩
  have B4 := B3.kept bb
  have B4' := B3'.kept bb
  have b4 : Below w.heap.size w W4 := b3.trans (bb.mono b3.size)
  refine hK.out _ _ ?_ (fun hHeld => ?_)
  · exact ⟨B4, B4.cell 14 _ rfl⟩
  clear hK K
  try simp only [Act.put, List.setIfInBounds_toArray, List.set_cons_zero, List.set_cons_succ]
  refine wpAnyH_ready (rs := [5]) (by kernel_rfl) (by simp) ?_
  refine AllReadyH.cons (o := { dst := none, op := Op.store 26 (.tmp 2) (.tmp 7), type := 0, pos := "parse.go:100", after := #[{ on := 4, ground := Ground.data }, { on := 4, ground := Ground.chain }, { on := 0, ground := Ground.phase }, { on := 1, ground := Ground.phase }, { on := 2, ground := Ground.phase }, { on := 3, ground := Ground.phase }, { on := 4, ground := Ground.phase }], guard := none }) rfl (fun K hK => ?_) AllReadyH.nil
  refine step_store_blk rfl _ _ _ rfl W1.heap.size #[.int .i64 f, .int .i64 pr, .int .i64 sf, .int .u64 sh, .int .u64 sl, .int .i64 df, .int .u64 dh, .int .u64 dl, .int .i64 V.1, .int .i64 V.2] _ (by kernel_rfl) (by kernel_rfl) B4' (by kernel_rfl) (by rfl) (by kernel_rfl) ?_
  refine hK.out _ _ ?_ (fun hHeld => ?_)
  · exact ⟨B4.other (by omega) _, (B4.other (by omega) _).cell 14 _ rfl⟩
  clear hK K
  try simp only [Act.put, List.setIfInBounds_toArray, List.set_cons_zero, List.set_cons_succ]
  refine wpAnyH_done (by kernel_rfl) ?_ _
  refine NoPanic.normal ?_
  have Bf := B4'.set #[.int .i64 f, .int .i64 pr, .int .i64 sf, .int .u64 sh, .int .u64 sl, .int .i64 df, .int .u64 dh, .int .u64 dl, .int .i64 V.1, .int .i64 V.2]
  have bf := below_setRow b4 (Nat.le_of_lt g1) #[.int .i64 f, .int .i64 pr, .int .i64 sf, .int .u64 sh, .int .u64 sl, .int .i64 df, .int .u64 dh, .int .u64 dl, .int .i64 V.1, .int .i64 V.2]
  go_wp2_with fail
  exact ret_cell (k := 2) Try.f70 (by kernel_rfl) Bf Try.underlying26 (by kernel_rfl) (by rfl) rfl ⟨rfl, bf⟩

end Go.Proofs.Ytgdpcomcndidcaa

namespace Go.Proofs.Ytgdpcomcndidcaa
open Go.RowKit
set_option linter.unusedVariables false
set_option linter.unusedSimpArgs false

structure Tp where
  fam : Int
  pr : Int
  s : Ad
  d : Ad
  sp : Int
  dp : Int
structure Sg where
  t : Tp
  fl : Int
  sq : Int
  ak : Int
  wn : Int
  ty : Int
  cd : Int
  er : Bool
  inn : Tp
  data : List Int
def zTp : Tp := ⟨0, 0, ⟨0, 0, 0⟩, ⟨0, 0, 0⟩, 0, 0⟩
def zSg : Sg := ⟨zTp, 0, 0, 0, 0, 0, 0, false, zTp, []⟩
abbrev tpv (t : Tp) : Array Value := #[.int .i64 t.fam, .int .i64 t.pr, .int .i64 t.s.fam, .int .u64 t.s.hi, .int .u64 t.s.lo, .int .i64 t.d.fam, .int .u64 t.d.hi, .int .u64 t.d.lo, .int .i64 t.sp, .int .i64 t.dp]
abbrev sgv (x : Sg) (a : Option Addr) (c : Nat) : Array Value :=
  #[.int .i64 x.t.fam, .int .i64 x.t.pr, .int .i64 x.t.s.fam, .int .u64 x.t.s.hi, .int .u64 x.t.s.lo, .int .i64 x.t.d.fam, .int .u64 x.t.d.hi, .int .u64 x.t.d.lo, .int .i64 x.t.sp, .int .i64 x.t.dp,
    .int .i64 x.fl, .int .u32 x.sq, .int .u32 x.ak, .int .i64 x.wn, .int .i64 x.ty, .int .i64 x.cd, .bool x.er,
    .int .i64 x.inn.fam, .int .i64 x.inn.pr, .int .i64 x.inn.s.fam, .int .u64 x.inn.s.hi, .int .u64 x.inn.s.lo, .int .i64 x.inn.d.fam, .int .u64 x.inn.d.hi, .int .u64 x.inn.d.lo, .int .i64 x.inn.sp, .int .i64 x.inn.dp,
    .slice a x.data.length c]
/-- The answer of a reader. -/
def GotS (w : World) (E : Int) (x : Sg) (e : Ending) (w' : World) : Prop := ∃ a c, e = .returned (.tuple #[.agg (sgv x a c), .int .i64 E]) ∧ Fresh w w' a c x.data
/-- A packet's way. -/
def endT (f pr : Int) (s d : Ad) (l : List Int) : Tp := ⟨f, pr, s, d, (portsOf f pr l).1, (portsOf f pr l).2⟩

def udpE (f pr : Int) (s d : Ad) (l : List Int) : Int :=
  if l.length < 8 then 2
  else if u16v l 4 < 8 ∨ (l.length : Int) < u16v l 4 then 5
  else if u16v (l.take (u16v l 4).toNat) 6 = 0 then (if f = 6 then 6 else 0)
  else if sumsB s d pr (l.take (u16v l 4).toNat) = true then 0 else 6
def udpX (f pr : Int) (s d : Ad) (l : List Int) : Sg := ⟨endT f pr s d l, 0, 0, 0, 0, 0, 0, false, zTp, (l.take (u16v l 4).toNat).drop 8⟩
def flagsB (fl : Int) : Bool := !(bits .and .i64 fl 22 == 0) && (!(!(bits .and .i64 fl 2 == 0) && !(bits .and .i64 fl 5 == 0)) && !(!(bits .and .i64 fl 1 == 0) && (bits .and .i64 fl 16 == 0)))
def tcpH (l : List Int) : Int := l.getD 12 0 / 16 * 4
def tcpF (l : List Int) : Int := bits .and .i64 (l.getD 13 0) 63
def tcpE (f pr : Int) (s d : Ad) (l : List Int) : Int :=
  if l.length < 20 then 2
  else if tcpH l < 20 ∨ (l.length : Int) < tcpH l then 4
  else if sumsB s d pr l = false then 6
  else if flagsB (tcpF l) = false then 10 else 0
def tcpX (f pr : Int) (s d : Ad) (l : List Int) : Sg := ⟨endT f pr s d l, tcpF l, u32v l 4, u32v l 8, u16v l 14, 0, 0, false, zTp, l.drop (tcpH l).toNat⟩

def inner4 (b : List Int) : Option Tp :=
  if b.getD 0 0 % 16 * 4 < 20 ∨ (b.length : Int) - b.getD 0 0 % 16 * 4 < 8 then none
  else some ⟨4, b.getD 9 0, (fromB (partv b 12 4)).1, (fromB (partv b 16 4)).1, (portsOf 4 (b.getD 9 0) (b.drop (b.getD 0 0 % 16 * 4).toNat)).1, (portsOf 4 (b.getD 9 0) (b.drop (b.getD 0 0 % 16 * 4).toNat)).2⟩
def inner6 (b : List Int) : Option Tp :=
  if b.length < 40 then none
  else if wE (b.getD 6 0) (b.drop 40) ≠ 0 ∨ (wS (b.getD 6 0) (b.drop 40)).l.length < 8 then none
  else some ⟨6, (wS (b.getD 6 0) (b.drop 40)).next, (fromB (partv b 8 16)).1, (fromB (partv b 24 16)).1, (portsOf 6 (wS (b.getD 6 0) (b.drop 40)).next (wS (b.getD 6 0) (b.drop 40)).l).1, (portsOf 6 (wS (b.getD 6 0) (b.drop 40)).next (wS (b.getD 6 0) (b.drop 40)).l).2⟩
def inner (f : Int) (b : List Int) : Option Tp :=
  if b.length = 0 then none else if b.getD 0 0 / 16 ≠ f then none else if f = 4 then inner4 b else inner6 b
def icmpE (f pr : Int) (s d : Ad) (l : List Int) : Int :=
  if l.length < 8 then 2
  else if sumsB s d pr l = false then 6
  else if isErr f (l.getD 0 0) = false then 0
  else if (inner f (l.drop 8)).isSome = true then 0 else 4
def icmpX (f pr : Int) (s d : Ad) (l : List Int) : Sg := ⟨endT f pr s d l, 0, 0, 0, 0, l.getD 0 0, l.getD 1 0, isErr f (l.getD 0 0), if isErr f (l.getD 0 0) = true then (inner f (l.drop 8)).getD zTp else zTp, l.drop 8⟩
end Go.Proofs.Ytgdpcomcndidcaa
