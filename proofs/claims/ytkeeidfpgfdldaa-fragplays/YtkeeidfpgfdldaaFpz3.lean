/- Texts joined: BlkY FgA FgB FgF FgG FgH BlkZ FgI FgJ -/
import Derived.Test.YtkeeidfpgfdldaaFpz2
import Derived.Maps.OwnSet
import Derived.Maps.RangeWalk
import Derived.Maps.Ext
import Derived.Deep.AppendLies
namespace Go.Proofs.Ytkeeidfpgfdldaa
open Go.RowKit
set_option linter.unusedVariables false
theorem yieldsIf_blk_w {ops : Array Oper} {S : World → Prop} {o : Oper} {ac : Act} (hw : Region.wanted o (yielded ops ac.tmps) = true) (t : TypeId) (p : Operand) (ho : o.op = Op.load t p) (g : Nat) (hp : ac.eval p = .pointer (some ⟨g, 0, none⟩)) (cs : Array Value)
  (hS : ∀ w, S w → Blk w g t cs) {fs : _} (hu : Try.prog.underlying t = some (.struct fs)) (hi : (Try.prog.info? t).map (·.size) = some cs.size) : YieldsIf Try.prog ops S o (.agg cs) ac := by
 refine .inl ⟨hw, fun w hw' => ?_⟩
 have hl := load_blk (hS w hw') hu hi
 simp [execOp, ho, hp, Instr.loadAt, Instr.sureAddr, hl, Result.andThen]
end Go.Proofs.Ytkeeidfpgfdldaa
namespace Go.Proofs.Ytkeeidfpgfdldaa
open Go.RowKit
set_option linter.unusedVariables false
set_option linter.unusedSimpArgs false
/-- A piece, and where its bytes lie. -/
structure Pc where
 off : Int
 da : Option Addr
 dc : Nat
 data : List Int
abbrev Pc.v (p : Pc) : Array Value := #[.int .i64 p.off, .slice p.da p.data.length p.dc]
def pcells (ps : List Pc) : List Value := ps.flatMap fun p => [.int .i64 p.off, .slice p.da p.data.length p.dc]
/-- The packet at the place 0. -/
structure Hd where
 fam : Int
 s : Ad
 d : Ad
 pr : Int
 ho : Int
 xa : Option Addr
 xc : Nat
 X : List Int
/-- A datagram. -/
structure Gm where
 ends : Int
 dead : Bool
 hd : Hd
 pa : Option Addr
 pc : Nat
 ps : List Pc
 size : Int
 reach : Int
 last : Bool
abbrev Gm.v (g : Gm) : Array Value :=
 #[.int .i64 g.ends, .bool g.dead, .int .i64 g.hd.fam, .int .i64 g.hd.s.fam, .int .u64 g.hd.s.hi, .int .u64 g.hd.s.lo, .int .i64 g.hd.d.fam, .int .u64 g.hd.d.hi, .int .u64 g.hd.d.lo, .int .i64 g.hd.pr, .int .i64 g.hd.ho, .bool false, .int .u32 0, .int .i64 0, .bool false, .slice g.hd.xa g.hd.X.length g.hd.xc, .slice none 0 0,
  .slice g.pa g.ps.length g.pc, .int .i64 g.size, .int .i64 g.reach, .bool g.last]
/-- A datagram's pieces and its header's list, in memory. -/
structure GmR (w : World) (g : Gm) : Prop where
 row : w.ownsRow 0 117 2 (.slice g.pa g.ps.length g.pc) g.ps.length (pcells g.ps)
 each : ∀ p ∈ g.ps, Row w p.da p.data ∧ p.data.length ≤ p.dc ∧ (p.da = none → p.dc = 0)
 exts : RowI w g.hd.xa g.hd.X
 few : g.ps.length ≤ 65535
theorem pcells_get : ∀ (ps : List Pc) (i : Nat) (p : Pc), ps[i]? = some p → (pcells ps)[2 * i]? = some (.int .i64 p.off) ∧ (pcells ps)[2 * i + 1]? = some (.slice p.da p.data.length p.dc)
 | [], i, p, h => by simp at h
 | q :: r, 0, p, h => by
  obtain rfl : q = p := by simpa using h
  exact ⟨rfl, rfl⟩
 | q :: r, i + 1, p, h => by
  have ih := pcells_get r i p (by simpa using h)
  have e : pcells (q :: r) = [.int .i64 q.off, .slice q.da q.data.length q.dc] ++ pcells r := rfl
  rw [e]
  refine ⟨?_, ?_⟩
  ·rw [List.getElem?_append_right (by simp; omega)]
   show (pcells r)[2 * (i + 1) - 2]? = _
   rw [show 2 * (i + 1) - 2 = 2 * i by omega]
   exact ih.1
  ·rw [List.getElem?_append_right (by simp; omega)]
   show (pcells r)[2 * (i + 1) + 1 - 2]? = _
   rw [show 2 * (i + 1) + 1 - 2 = 2 * i + 1 by omega]
   exact ih.2
/-- Where the pieces lie, cell by cell. -/
theorem GmR.cells {w : World} {g : Gm} (h : GmR w g) (hp : 0 < g.ps.length) : ∃ b, g.pa = some ⟨b, 0, none⟩ ∧ b < w.heap.size ∧ ∀ i p, g.ps[i]? = some p → w.cell? ⟨b, 2 * i, none⟩ = some (.int .i64 p.off) ∧ w.cell? ⟨b, 2 * i + 1, none⟩ = some (.slice p.da p.data.length p.dc) := by
 obtain ⟨hl, hr⟩ := h.row
 rcases hr with ⟨_, h0⟩ | ⟨b, cap, cur, hv, _, hb, hn, hcm, hcs, hx⟩
 ·omega
 ·have hpa : g.pa = some ⟨b, 0, none⟩ := by
   simp only [Value.slice.injEq] at hv
   exact hv.1
  refine ⟨b, hpa, (Array.getElem?_eq_some_iff.1 hb).1, fun i p hi => ?_⟩
  have hlt : i < g.ps.length := (List.getElem?_eq_some_iff.1 hi).1
  have hg := pcells_get g.ps i p hi
  have hc : ∀ j v, (pcells g.ps)[j]? = some v → w.cell? ⟨b, j, none⟩ = some v := fun j v hj => by
   rw [← hx, List.getElem?_take] at hj
   split at hj
   ·exact Blk.cell (show Blk w b 117 cur from hb) j v (by simpa using hj)
   ·cases hj
  exact ⟨hc _ _ hg.1, hc _ _ hg.2⟩
theorem wpList_buildF {ops : Array Oper} {rest : List Oper} {o : Oper} {ac : Act} {Q : Exit → Act → World → Prop} (w : World) (hgd : o.guard = none) (t : TypeId) (parts : Array (Nat × Operand)) (ho : o.op = Op.build t parts)
  (vs : Array (Nat × Value)) (hv : parts.map (fun p => (p.1, ac.eval p.2)) = vs) (r : Value) (hrun : (Instr.build t vs).run Try.prog w = .ok r w) (h : wpList Try.prog ops Q rest (ac.put o.dst r) w) : wpList Try.prog ops Q (o :: rest) ac w := by
 refine wpList_plain hgd fun K hK => ?_
 unfold Oper.wp
 subst hv
 simp [execOp, ho, hrun, Result.andThen]
 exact hK _ _ h
set_option maxRecDepth 100000 in
set_option maxHeartbeats 4000000 in
theorem isMade_at (g : Nat) (m : Bool) (w : World) (h : w.cell? ⟨g, 0, none⟩ = some (.bool m)) : Calls Try.prog 29 #[.pointer (some ⟨g, 0, none⟩)] w fun e w' => e = .returned (.bool m) ∧ w' = w := by
 go_enter Try.func29, Try.ntmps29
 go_wp2
 go_ret
 exact ⟨rfl, rfl⟩
set_option maxRecDepth 100000 in
set_option maxHeartbeats 4000000 in
theorem fwhole_any (g : Gm) (w : World) : Calls Try.prog 47 #[.agg g.v] w fun e w' => e = .returned (.bool (g.last && (g.size == g.reach))) ∧ Below w.heap.size w w' := by
 obtain ⟨W1, hW1⟩ : ∃ W, w.alloc (.cells g.v 75) = W := ⟨_, rfl⟩
 have b1 := bel_nw hW1
 have P1 := blk_nw hW1
 obtain ⟨lst, hl⟩ : ∃ l, g.last = l := ⟨_, rfl⟩
 have d18 := P1.cell 18 (.int .i64 g.size) rfl
 have d19 := P1.cell 19 (.int .i64 g.reach) rfl
 have d20 := P1.cell 20 (.bool g.last) rfl
 rw [hl] at d20 ⊢
 clear P1 hl
 go_enter Try.func47, Try.ntmps47
 cases lst
 all_goals
  go_wp2
  go_ret
  exact ⟨rfl, b1⟩
set_option maxRecDepth 100000 in
set_option maxHeartbeats 4000000 in
theorem rightEnd_any (fam f h l : Int) (w : World) : Calls Try.prog 43 #[.int .i64 fam, .agg #[.int .i64 f, .int .u64 h, .int .u64 l]] w fun e w' => e = .returned (.bool (Ad.right ⟨f, h, l⟩ && (f == fam))) ∧ Below w.heap.size w w' := by
 obtain ⟨W1, hW1⟩ : ∃ W, w.alloc (.cells #[.int .i64 f, .int .u64 h, .int .u64 l] 37) = W := ⟨_, rfl⟩
 have b1 := bel_nw hW1
 have P1 := blk_nw hW1
 obtain ⟨r, hr⟩ : ∃ r, Ad.right ⟨f, h, l⟩ = r := ⟨_, rfl⟩
 have KR : Hid (∀ W, Calls Try.prog 71 #[.agg #[.int .i64 f, .int .u64 h, .int .u64 l]] W fun e w' => e = .returned (.bool r) ∧ Below W.heap.size W w') := fun W => by
  rw [← hr]
  exact Calls.mono (right_any f h l W) (by rintro e w' ⟨rfl, rfl⟩; exact ⟨rfl, (Below.refl _ _).alloc (Nat.le_refl _) _⟩)
 rw [hr]
 clear hr
 go_enter Try.func43, Try.ntmps43
 go_wp2_with (refine wpList_load_row rfl _ _ rfl w.heap.size (by rfl) _ _ _ _ P1 Try.underlying37 rfl (by kernel_rfl) ?_)
 refine Calls.mono (KR.out _) ?_
 rintro e W2 ⟨rfl, bb⟩
 have d0 := (P1.kept bb).cell 0 (.int .i64 f) rfl
 have b2 := bel_tr b1 bb
 clear KR bb P1 b1 hW1
 cases r
 all_goals
  go_wp2
  go_ret
  exact ⟨rfl, b2⟩
set_option maxRecDepth 100000 in
set_option maxHeartbeats 4000000 in
theorem fBytes_at (g : Nat) (by_ : Int) (w : World) (h : w.cell? ⟨g, 0, none⟩ = some (.bool true)) (h' : w.cell? ⟨g, 5, none⟩ = some (.int .i64 by_)) : Calls Try.prog 21 #[.pointer (some ⟨g, 0, none⟩)] w fun e w' => e = .returned (.int .i64 by_) ∧ w' = w := by
 have K := isMade_at g true w h
 go_enter Try.func21, Try.ntmps21
 go_wp2_with fail
 refine Calls.mono K ?_
 rintro e w' ⟨rfl, rfl⟩
 go_wp2
 go_ret
 exact ⟨rfl, rfl⟩
set_option maxRecDepth 100000 in
set_option maxHeartbeats 4000000 in
theorem fNow_at (g : Nat) (nw : Int) (w : World) (h : w.cell? ⟨g, 0, none⟩ = some (.bool true)) (h' : w.cell? ⟨g, 4, none⟩ = some (.int .i64 nw)) : Calls Try.prog 23 #[.pointer (some ⟨g, 0, none⟩)] w fun e w' => e = .returned (.int .i64 nw) ∧ w' = w := by
 have K := isMade_at g true w h
 go_enter Try.func23, Try.ntmps23
 go_wp2_with fail
 refine Calls.mono K ?_
 rintro e w' ⟨rfl, rfl⟩
 go_wp2
 go_ret
 exact ⟨rfl, rfl⟩
/-- Does a piece share a byte with what lies from of to en? -/
def shareB (of en : Int) (q : Pc) : Bool := decide (of < q.off + q.data.length) && decide (q.off < en)
/-- A datagram's numbers. -/
structure GmN (g : Gm) : Prop where
 off : ∀ p ∈ g.ps, 0 ≤ p.off ∧ p.off ≤ 65528 ∧ p.data.length ≤ 65535
 size : 0 ≤ g.size ∧ g.size ≤ 1048576
 reach : 0 ≤ g.reach ∧ g.reach ≤ 65535
theorem ownsRow_below {w w' : World} {B : Nat} {e : TypeId} {k n : Nat} {v : Value} {xs : List Value} (h : w.ownsRow B e k v n xs) (hb : Below w.heap.size w w') : w'.ownsRow B e k v n xs := by
 obtain ⟨h1, h2⟩ := h
 refine ⟨h1, ?_⟩
 rcases h2 with h2 | ⟨g, cap, cur, hv, hg, hh, r⟩
 ·exact Or.inl h2
 ·exact Or.inr ⟨g, cap, cur, hv, hg, (hb.block g (Array.getElem?_eq_some_iff.1 hh).1).trans hh, r⟩
theorem GmR.below {w w' : World} {g : Gm} (h : GmR w g) (hb : Below w.heap.size w w') : GmR w' g :=
 ⟨ownsRow_below h.row hb, fun p hp => ⟨(h.each p hp).1.below hb, (h.each p hp).2⟩, h.exts.below hb, h.few⟩
set_option maxRecDepth 100000 in
set_option maxHeartbeats 4000000 in
theorem share_any (q : Pc) (gp ge : Nat) (of en : Int) (w : World) (h7 : w.cell? ⟨gp, 11, none⟩ = some (.int .i64 of)) (he : w.cell? ⟨ge, 0, none⟩ = some (.int .i64 en)) (q0 : 0 ≤ q.off) (q1 : q.off ≤ 65528) (ql : q.data.length ≤ 65535) :
  Calls Try.prog 72 #[.agg q.v, .pointer (some ⟨gp, 0, none⟩), .pointer (some ⟨ge, 0, none⟩)] w fun e w' => e = .returned (.bool (shareB of en q)) ∧ Below w.heap.size w w' := by
 obtain ⟨W1, hW1⟩ : ∃ W, w.alloc (.cells q.v 117) = W := ⟨_, rfl⟩
 have b1 := bel_nw hW1
 have P1 := blk_nw hW1
 have d0 := P1.cell 0 (.int .i64 q.off) rfl
 have d1 := P1.cell 1 (.slice q.da q.data.length q.dc) rfl
 have e7 := kept b1 h7
 have ee := kept b1 he
 have wq : IntKind.i64.wrap (q.off + (q.data.length : Int)) = q.off + (q.data.length : Int) := wraps_i64 _ (by omega) (by omega)
 unfold shareB
 obtain ⟨S, hS⟩ : ∃ s, q.off + (q.data.length : Int) = s := ⟨_, rfl⟩
 have wS : IntKind.i64.wrap (q.off + (q.data.length : Int)) = S := by rw [wq, hS]
 rw [hS]
 clear P1 h7 he wq hS
 go_enter Try.func72, Try.ntmps72
 by_cases c1 : of < S
 ·rw [decide_eq_true c1]
  go_wp2
  all_goals go_ret
  all_goals exact ⟨by simp_all, b1⟩
 ·rw [decide_eq_false c1]
  go_wp2
  all_goals go_ret
  all_goals exact ⟨by simp_all, b1⟩
set_option maxRecDepth 100000 in
set_option maxHeartbeats 4000000 in
theorem indexFunc_any (g : Gm) (gp ge : Nat) (of en : Int) (w : World) (hg : GmR w g) (hn : GmN g) (h7 : w.cell? ⟨gp, 11, none⟩ = some (.int .i64 of)) (he : w.cell? ⟨ge, 0, none⟩ = some (.int .i64 en)) :
  Calls Try.prog 85 #[.slice g.pa g.ps.length g.pc, .func (.func 72) #[] #[.pointer (some ⟨gp, 0, none⟩), .pointer (some ⟨ge, 0, none⟩)]] w fun e w' => ∃ r : Int, e = .returned (.int .i64 r) ∧ (0 ≤ r ↔ g.ps.any (shareB of en) = true) ∧ r ≤ 65535 ∧ Below w.heap.size w w' := by
 have few := hg.few
 have KS : Hid (∀ W q, Below w.heap.size w W → q ∈ g.ps → Calls Try.prog 72 #[.agg q.v, .pointer (some ⟨gp, 0, none⟩), .pointer (some ⟨ge, 0, none⟩)] W fun e w' => e = .returned (.bool (shareB of en q)) ∧ Below W.heap.size W w') := fun W q hb hq =>
  share_any q gp ge of en W (kept hb h7) (kept hb he) (hn.off q hq).1 (hn.off q hq).2.1 (hn.off q hq).2.2
 have HC : Hid (0 < g.ps.length → ∃ b, g.pa = some ⟨b, 0, none⟩ ∧ b < w.heap.size ∧ ∀ i p, g.ps[i]? = some p → w.cell? ⟨b, 2 * i, none⟩ = some (.int .i64 p.off) ∧ w.cell? ⟨b, 2 * i + 1, none⟩ = some (.slice p.da p.data.length p.dc)) := hg.cells
 clear hg hn h7 he
 go_enter Try.func85, Try.ntmps85
 go_wp2_with fail
 go_loopw [8] (fun i wr => ∃ (k : Nat), k ≤ g.ps.length ∧ i = .int .i64 k ∧ Below w.heap.size w wr ∧ Hid (∀ j p, j < k → g.ps[j]? = some p → shareB of en p = false)) (fun i _ => g.ps.length - (intOf i).toNat)
 case atStart => exact ⟨0, Nat.zero_le _, rfl, Below.refl _ _, fun j p hj => by omega⟩
 case round =>
  obtain ⟨k, hk, rfl, qb, qe⟩ := hrel
  by_cases hlt : k < g.ps.length
  ·have ik : (k : Int) < (g.ps.length : Int) := by omega
   obtain ⟨b, hpa, hbl, hcs⟩ := HC.out (by omega)
   obtain ⟨p, hp⟩ : ∃ p, g.ps[k]? = some p := ⟨_, List.getElem?_eq_getElem hlt⟩
   obtain ⟨c0, c1⟩ := hcs k p hp
   have d0 := kept qb c0
   have d1 := kept qb c1
   rw [Nat.mul_comm] at d0 d1
   have hmem : p ∈ g.ps := List.mem_of_getElem? hp
   have KK : Hid _ := KS.out wr p qb hmem
   have HP : Hid (g.ps[k]? = some p) := hp
   rw [hpa]
   clear hcs c0 c1 hp
   go_wp2_with fail
   refine Calls.mono KK.out ?_
   rintro e W2 ⟨rfl, bb⟩
   have b2 := bel_tr qb bb
   clear KK bb d0 d1 qb
   cases hsb : shareB of en p with
   | true =>
    have hany : Hid (g.ps.any (shareB of en) = true) := List.any_eq_true.2 ⟨p, hmem, hsb⟩
    clear qe
    go_wp2
    go_ret
    exact ⟨k, rfl, ⟨fun _ => hany.out, fun _ => by omega⟩, by omega, b2⟩
   | false =>
    have HN : Hid (∀ j q, j < k + 1 → g.ps[j]? = some q → shareB of en q = false) := fun j q hj hq => by
     by_cases e : j = k
     ·subst e
      rw [HP.out] at hq
      cases hq
      exact hsb
     ·exact qe.out j q (by omega) hq
    clear qe
    go_wp2
    exact ⟨⟨k + 1, by omega, by go_num, b2, HN⟩, by simp [intOf]; omega⟩
  ·have ik : ¬ (k : Int) < (g.ps.length : Int) := by omega
   have hall : g.ps.any (shareB of en) = false := by
    rw [List.any_eq_false]
    intro p hp
    obtain ⟨j, hj⟩ := List.getElem?_of_mem hp
    have hjl : j < g.ps.length := (List.getElem?_eq_some_iff.1 hj).1
    rw [qe.out j p (by omega) hj]
    decide
   clear qe
   go_wp2
   go_ret
   exact ⟨-1, rfl, by first | decide | (rw [hall]; decide), by decide, qb⟩
set_option maxRecDepth 100000 in
set_option maxHeartbeats 4000000 in
theorem contains_any (g : Gm) (gp ge : Nat) (of en : Int) (w : World) (hg : GmR w g) (hn : GmN g) (h7 : w.cell? ⟨gp, 11, none⟩ = some (.int .i64 of)) (he : w.cell? ⟨ge, 0, none⟩ = some (.int .i64 en)) :
  Calls Try.prog 73 #[.slice g.pa g.ps.length g.pc, .func (.func 72) #[] #[.pointer (some ⟨gp, 0, none⟩), .pointer (some ⟨ge, 0, none⟩)]] w fun e w' => e = .returned (.bool (g.ps.any (shareB of en))) ∧ Below w.heap.size w w' := by
 have K : Hid _ := indexFunc_any g gp ge of en w hg hn h7 he
 obtain ⟨B, hB⟩ : ∃ B, g.ps.any (shareB of en) = B := ⟨_, rfl⟩
 rw [hB] at K ⊢
 clear hg hn h7 he hB
 go_enter Try.func73, Try.ntmps73
 go_wp2_with fail
 refine Calls.mono K.out ?_
 rintro e W2 ⟨r, rfl, hr, _, bb⟩
 clear K
 by_cases c : 0 ≤ r
 ·have hBt : B = true := hr.1 c
  subst hBt
  clear hr
  go_wp2
  go_ret
  exact ⟨by simp_all, bb⟩
 ·have hBf : B = false := by
   cases B with
   | false => rfl
   | true => exact absurd (hr.2 rfl) c
  subst hBf
  clear hr
  go_wp2
  go_ret
  exact ⟨by simp_all, bb⟩
/-- Does a fragment clash with a datagram? -/
def clashB (g : Gm) (of : Int) (mo : Bool) (n : Nat) : Bool :=
 if (g.last && (!mo || decide (of + n > g.reach))) = true then true else if (!mo && decide (g.reach > of + n)) = true then true else g.ps.any (shareB of (of + n))
set_option maxRecDepth 100000 in
set_option maxHeartbeats 4000000 in
theorem clashes_any (g : Gm) (f sf sh sl df dh dl pr ho : Int) (fg : Bool) (id of : Int) (mo : Bool) (xa : Option Addr) (xc : Nat) (X : List Int) (da : Option Addr) (dc : Nat) (dat : List Int) (w : World) (hg : GmR w g) (hn : GmN g) (h0 : 0 ≤ of) (h1 : of ≤ 65528) (hl : dat.length ≤ 65535) :
  Calls Try.prog 45 #[.agg g.v, .agg #[.int .i64 f, .int .i64 sf, .int .u64 sh, .int .u64 sl, .int .i64 df, .int .u64 dh, .int .u64 dl, .int .i64 pr, .int .i64 ho, .bool fg, .int .u32 id, .int .i64 of, .bool mo, .slice xa X.length xc, .slice da dat.length dc]] w fun e w' => e = .returned (.bool (clashB g of mo dat.length)) ∧ Below w.heap.size w w' := by
 obtain ⟨W1, hW1⟩ : ∃ W, w.alloc (.cells g.v 75) = W := ⟨_, rfl⟩
 obtain ⟨W2, hW2⟩ : ∃ W, W1.alloc (.cells #[.int .i64 f, .int .i64 sf, .int .u64 sh, .int .u64 sl, .int .i64 df, .int .u64 dh, .int .u64 dl, .int .i64 pr, .int .i64 ho, .bool fg, .int .u32 id, .int .i64 of, .bool mo, .slice xa X.length xc, .slice da dat.length dc] 42) = W := ⟨_, rfl⟩
 have b1 := bel_nw hW1
 have b2 := bel_al b1 hW2
 have G1 := blk_nw hW1
 have G2 := G1.al hW2
 have P2 := blk_nw hW2
 have d11 := P2.cell 11 (.int .i64 of) rfl
 have d14 := P2.cell 14 (.slice da dat.length dc) rfl
 obtain ⟨EN, hEN⟩ : ∃ e, of + (dat.length : Int) = e := ⟨_, rfl⟩
 have wE : IntKind.i64.wrap (of + (dat.length : Int)) = EN := by rw [← hEN]; exact wraps_i64 _ (by omega) (by omega)
 obtain ⟨W3, hW3⟩ : ∃ W, W2.alloc (.cells #[.int .i64 EN] 3) = W := ⟨_, rfl⟩
 have b3 := bel_al b2 hW3
 have G3 := G2.al hW3
 have P3 := P2.al hW3
 have E3 := blk_nw hW3
 have KC : Hid _ := contains_any g W1.heap.size W2.heap.size of EN W3 (hg.below b3) hn (P3.cell 11 (.int .i64 of) rfl) (E3.cell 0 (.int .i64 EN) rfl)
 have e8 := P3.cell 12 (.bool mo) rfl
 have e20 := G3.cell 20 (.bool g.last) rfl
 have e19 := G3.cell 19 (.int .i64 g.reach) rfl
 have e17 := G3.cell 17 (.slice g.pa g.ps.length g.pc) rfl
 have ee := E3.cell 0 (.int .i64 EN) rfl
 unfold clashB
 rw [hEN]
 obtain ⟨lst, hlst⟩ : ∃ l, g.last = l := ⟨_, rfl⟩
 obtain ⟨rch, hrch⟩ : ∃ l, g.reach = l := ⟨_, rfl⟩
 obtain ⟨B, hB⟩ : ∃ l, g.ps.any (shareB of EN) = l := ⟨_, rfl⟩
 rw [hlst] at e20 ⊢
 rw [hrch] at e19 ⊢
 rw [hB] at KC ⊢
 clear hg hn G1 G2 P2 G3 P3 E3 hEN hlst hrch hB b1 b2
 go_enter Try.func45, Try.ntmps45
 cases lst <;> cases mo
 all_goals (
  go_wp2_with fail)
 all_goals first
  | (go_ret; exact ⟨by first | rfl | (simp_all; done) | (simp_all; omega), b3⟩)
  | (refine Calls.mono KC.out ?_; rintro e W4 ⟨rfl, bb⟩; have b4 := bel_tr b3 bb; clear KC bb; go_wp2; all_goals go_ret; all_goals exact ⟨by first | rfl | (simp_all; done) | (simp_all; omega) | (simp_all; intro h; omega), b4⟩)
/-- Cells put one behind the other. -/
def setMany (cur : Array Value) (j : Nat) : List Value → Array Value
 | [] => cur
 | v :: vs => setMany (cur.setIfInBounds j v) (j + 1) vs
theorem setRow_self {W : World} {g : Nat} {t : TypeId} {cs : Array Value} (h : Blk W g t cs) : W.setRow g cs = W := by
 have hlt : g < W.heap.size := h.lt
 have hv : W.heap[g] = .cells cs t (0, 0) := (Array.getElem?_eq_some_iff.1 h).2
 unfold World.setRow
 cases W with
 | mk heap tape drawn os output =>
  congr 1
  apply Array.ext
  ·simp
  ·intro k h1 h2
   simp only [Array.getElem_modify]
   split
   ·rename_i hk; subst hk; simp at hv; simp [hv]
   ·rfl
theorem run_storeCells_off (g k : Nat) (t : TypeId) : ∀ (vs : List Value) (i : Nat) (cur : Array Value) (w : World), Blk w g t cur → k + i + vs.length ≤ cur.size → (∀ v ∈ vs, v.oneCell' = true) →
  (storeCells ⟨g, k, none⟩ vs i).run Try.prog w = .ok () (w.setRow g (setMany cur (k + i) vs))
 | [], i, cur, w, hg, hl, _ => by
  simp only [storeCells, setMany]
  rw [setRow_self hg]
  rfl
 | v :: rest, i, cur, w, hg, hl, h1 => by
  have hi : k + i < cur.size := by simp at hl; omega
  have hadd : (⟨g, k, none⟩ : Addr).add i = ⟨g, k + i, none⟩ := Go.WideShapes.add_plain ..
  have hcell : w.cell? ⟨g, k + i, none⟩ = some cur[k + i] := hg.cell (k + i) _ (by simp [hi])
  have hfro : w.frozen? ⟨g, k + i, none⟩ = false := hg.frozen _
  have hst : (store ((⟨g, k, none⟩ : Addr).add i) v).run Try.prog w = .ok () (w.setRow g (cur.setIfInBounds (k + i) v)) := by
   rw [hadd, run_store Try.prog w _ v _ (h1 v (by simp)), hcell]
   simp [hfro, setCell_eq_setRow w g (k + i) cur t (0, 0) v hg]
  have ih := run_storeCells_off g k t rest (i + 1) (cur.setIfInBounds (k + i) v) (w.setRow g (cur.setIfInBounds (k + i) v)) (hg.set _) (by simp at hl ⊢; omega) (fun x hx => h1 x (by simp [hx]))
  simp only [storeCells, Sem.run_bind, hst, Result.andThen_ok, ih, setRow_setRow, setMany]
  rfl
theorem run_storeVar_off {W : World} {g k : Nat} {t ty : TypeId} {cur cells : Array Value} (h : Blk W g t cur) (hi : (Try.prog.info? ty).map (·.size) = some cells.size) (hl : k + cells.size ≤ cur.size) (h1 : cells.all (·.oneCell') = true) :
  (storeVar ty ⟨g, k, none⟩ (.agg cells)).run Try.prog W = .ok () (W.setRow g (setMany cur k cells.toList)) := by
 have := run_storeCells_off g k t cells.toList 0 cur W h (by simp; omega) (fun v hv => (Array.all_eq_true_iff_forall_mem.1 h1) v (by simpa using hv))
 cases hq : Try.prog.info? ty with
 | none => simp [hq] at hi
 | some i =>
  have hs : cells.size = i.size := by simp [hq] at hi; omega
  simp [storeVar, sizeOf, typeInfo, hq, Value.cells, hs, this]
theorem step_store_off {ops : Array Oper} {o : Oper} {ac : Act} {K : Act → World → Prop} {Q : Exit → Act → World → Prop} {Z : Prop} {w : World} (hgd : o.guard = none) (ty : TypeId) (p x : Operand) (ho : o.op = Op.store ty p x) (g k : Nat) (t : TypeId) (cs cur new : Array Value)
  (hp : ac.eval p = .pointer (some ⟨g, k, none⟩)) (hx : ac.eval x = .agg cs) (hb : Blk w g t cur) (hi : (Try.prog.info? ty).map (·.size) = some cs.size) (hl : k + cs.size ≤ cur.size) (h1 : cs.all (·.oneCell') = true) (hn : setMany cur k cs.toList = new) (h : K (ac.put o.dst undef) (w.setRow g new)) :
  if Region.wanted o (yielded ops ac.tmps) = true then Oper.wp Try.prog o ac w K Q else Z := by
 have hw : Region.wanted o (yielded ops ac.tmps) = true := by simp [Region.wanted, hgd]
 rw [if_pos hw]
 subst hn
 unfold Oper.wp execOp
 simp only [ho, hp, hx, Instr.storeAt, Instr.sureAddr, Sem.run_bind, Sem.run_pure, Result.andThen_ok, run_storeVar_off hb hi hl h1]
 exact h
/-- w' is w but for the blocks F, and new ones. -/
structure But (F : Nat → Prop) (w w' : World) : Prop where
 os : w'.os = w.os
 tape : w'.tape = w.tape
 output : w'.output = w.output
 size : w.heap.size ≤ w'.heap.size
 block : ∀ k, k < w.heap.size → ¬ F k → w'.heap[k]? = w.heap[k]?
theorem But.refl (F : Nat → Prop) (w : World) : But F w w := ⟨rfl, rfl, rfl, Nat.le_refl _, fun _ _ _ => rfl⟩
theorem But.trans {F F' : Nat → Prop} {a b c : World} (h : But F a b) (k : But F' b c) (hf : ∀ n, n < a.heap.size → F' n → F n) : But F a c :=
 ⟨k.os.trans h.os, k.tape.trans h.tape, k.output.trans h.output, Nat.le_trans h.size k.size, fun i hi hn => (k.block i (Nat.lt_of_lt_of_le hi h.size) (fun x => hn (hf i hi x))).trans (h.block i hi hn)⟩
theorem But.of_below {w w' : World} (h : Below w.heap.size w w') (F : Nat → Prop) : But F w w' := ⟨h.os, h.tape, h.output, h.size, fun k hk _ => h.block k hk⟩
theorem But.below {F : Nat → Prop} {a b c : World} (h : But F a b) (k : Below b.heap.size b c) : But F a c := h.trans (F' := fun _ => False) (But.of_below k _) (fun _ _ x => x.elim)
theorem But.setRow {F : Nat → Prop} {a b : World} (h : But F a b) (g : Nat) (hg : F g ∨ a.heap.size ≤ g) (cs : Array Value) : But F a (b.setRow g cs) :=
 h.trans (F' := fun k => k = g) ⟨rfl, rfl, rfl, by simp [World.setRow], fun k hk hn => setRow_heap_ne b g k cs hn⟩ (fun n hn e => by subst e; rcases hg with x | x; exact x; omega)
theorem But.setCell {F : Nat → Prop} {a b : World} (h : But F a b) (g i : Nat) (hg : F g ∨ a.heap.size ≤ g) (v : Value) : But F a (b.setCell ⟨g, i, none⟩ v) :=
 h.trans (F' := fun k => k = g) ⟨rfl, rfl, rfl, by simp [World.setCell], fun k hk hn => Below.heap_setCell _ _ _ _ hn⟩ (fun n hn e => by subst e; rcases hg with x | x; exact x; omega)
theorem But.grown {F : Nat → Prop} {a b c : World} {r : Option Nat} (h : But F a b) (k : b.grownBy c r) (hr : ∀ n, r = some n → F n ∨ a.heap.size ≤ n) : But F a c :=
 h.trans (F' := fun k => r = some k) ⟨k.os, k.tape, k.output, k.size, fun i hi hn => k.block i hi (fun e => hn e.symm)⟩ (fun n hn e => by rcases hr n e with x | x; exact x; omega)
theorem But.to_below {F : Nat → Prop} {w w' : World} (h : But F w w') {B : Nat} (hB : B ≤ w.heap.size) (hF : ∀ k, k < B → ¬ F k) : Below B w w' := ⟨h.os, h.tape, h.output, h.size, fun k hk => h.block k (by omega) (hF k hk)⟩
theorem info_i64F : (Try.prog.info? 3).map (fun i => (i.zero, i.size, i.bytes)) = some (some (.int .i64 0), 1, 8) := by kernel_rfl
set_option maxRecDepth 100000 in
theorem eq_nilI (a : Option Addr) (n c : Nat) (w : World) : (binOp .eql 39 (.slice a n c) (.slice none 0 0)).run Try.prog w = .ok (.bool a.isNone) w := by
 cases a <;> rfl
set_option maxHeartbeats 1000000 in
theorem cloneI_any (a : Option Addr) (c : Nat) (l : List Int) (w : World) (h : RowI w a l) (hnil : a = none → c = 0) :
  Calls Try.prog 31 #[.slice a l.length c] w fun e w' => ∃ a' c', e = .returned (.slice a' l.length c') ∧ OwnsI w' w.heap.size (.slice a' l.length c') l ∧ Below w.heap.size w w' := by
 obtain ⟨i0, hi, hz0, hz1, hz2⟩ := info_parts info_i64F
 cases a with
 | none =>
  have hl : l = [] := by
   cases l with
   | nil => rfl
   | cons y l => obtain ⟨b, off, hh, _⟩ := h.cells (by simp); cases hh
  subst hl
  have hc0 := hnil rfl
  subst hc0
  have hq := eq_nilI none 0 0 w
  go_enter Try.func31, Try.ntmps31
  go_wp2
  go_ret
  exact ⟨none, 0, rfl, OwnsI.nil _ _, Below.refl _ _⟩
 | some x =>
  have o1 : (w.alloc (.cells #[] 3)).ownsRow w.heap.size 3 1 (.slice (some ⟨w.heap.size, 0, none⟩) 0 0) 0 [] := ⟨rfl, Or.inr ⟨w.heap.size, 0, #[], rfl, Nat.le_refl _, World.heap_new w _, Nat.le_refl _, by unfold maxLen; omega, rfl, rfl⟩⟩
  have b1 : Below w.heap.size w (w.alloc (.cells #[] 3)) := (Below.refl _ _).alloc (Nat.le_refl _) _
  have r1 := h.alloc (.cells #[] 3)
  have hs := h.small
  have hq := eq_nilI (some x) l.length c w
  have hnews : ∀ j u, (l.map (Value.int .i64))[j]? = some u → (w.alloc (.cells #[] 3)).cell? (x.add j) = some u := fun j u hj => by
   have hjl : j < l.length := by
    have := (List.getElem?_eq_some_iff.1 hj).1
    simpa using this
   obtain ⟨b, off, hh, hc⟩ := r1.cells (by omega)
   cases hh
   have e1 : Addr.add ⟨b, off, none⟩ j = ⟨b, off + j, none⟩ := Go.WideShapes.add_plain ..
   rw [e1, hc j hjl]
   rw [← hj]
   simp [hjl]
  have h1 : ∀ u ∈ l.map (Value.int .i64), u.oneCell' = true := fun u hu => by
   obtain ⟨y, _, rfl⟩ := List.mem_map.1 hu
   rfl
  go_enter Try.func31, Try.ntmps31
  go_wp2_with (at_builtin; refine wpList_append_own _ rfl _ _ 39 rfl w.heap.size 3 i0 (.int .i64 0) 1 8 Try.underlying39 hi hz0 hz1 hz2 rfl (by decide) _ 0 [] rfl o1 x l.length c (l.map (Value.int .i64)) rfl (by simp) hnews h1 (by unfold maxLen; omega) (by omega) (by simp) ?_)
  intro v' w4 o4 g4 _
  have b4 : Below w.heap.size w w4 := b1.grown g4 (by simp) (fun k hk => by cases hk; exact Nat.le_refl _)
  have o5 : OwnsI w4 w.heap.size v' l := by
   show w4.ownsRow w.heap.size 3 1 v' l.length (l.map (Value.int .i64))
   simpa using o4
  have hv : ∃ a' c', v' = .slice a' l.length c' := by
   rcases o5.2 with ⟨h2, h3⟩ | ⟨g, cap, cur, h2, _⟩
   ·exact ⟨none, 0, by rw [h3]; exact h2⟩
   ·exact ⟨_, _, h2⟩
  obtain ⟨a', c', rfl⟩ := hv
  clear o4 g4 hnews h1
  go_wp2
  go_ret
  exact ⟨a', c', rfl, o5, b4⟩
/-- No memory of a is in a block of F. -/
def Off (F : Nat → Prop) (a : Option Addr) : Prop := ∀ x, a = some x → ¬ F x.block
theorem But.cell {F : Nat → Prop} {w w' : World} (h : But F w w') {b i : Nat} {v : Value} (hn : ¬ F b) (hc : w.cell? ⟨b, i, none⟩ = some v) : w'.cell? ⟨b, i, none⟩ = some v :=
 (World.cell?_of_block (h.block b (World.block_lt_of_cell? w _ hc) hn)).trans hc
theorem Row.but {F : Nat → Prop} {w w' : World} {a : Option Addr} {l : List Int} (h : Row w a l) (hb : But F w w') (ho : Off F a) : Row w' a l :=
 ⟨h.small, h.bytes, fun hl => by
  obtain ⟨b, off, ha, hc⟩ := h.cells hl
  exact ⟨b, off, ha, fun i hi => hb.cell (ho _ ha) (hc i hi)⟩⟩
theorem RowI.but {F : Nat → Prop} {w w' : World} {a : Option Addr} {l : List Int} (h : RowI w a l) (hb : But F w w') (ho : Off F a) : RowI w' a l :=
 ⟨h.small, fun hl => by
  obtain ⟨b, off, ha, hc⟩ := h.cells hl
  exact ⟨b, off, ha, fun i hi => hb.cell (ho _ ha) (hc i hi)⟩⟩
theorem Blk.but {F : Nat → Prop} {w w' : World} {g : Nat} {t : TypeId} {cs : Array Value} (h : Blk w g t cs) (hb : But F w w') (hn : ¬ F g) : Blk w' g t cs := (hb.block g h.lt hn).trans h
/-- Memory that is newer than B. -/
def New (B : Nat) (a : Option Addr) : Prop := ∀ x, a = some x → B ≤ x.block
theorem owns_new_of {w : World} {B n c : Nat} {a : Option Addr} {l : List Int} (h : Owns w B (.slice a n c) l) : New B a ∧ ∀ x, a = some x → x.block < w.heap.size := by
 obtain ⟨_, h2⟩ := h
 rcases h2 with ⟨h3, _⟩ | ⟨g, cap, cur, h3, h4, h5, _⟩
 ·simp only [Value.slice.injEq] at h3
  exact ⟨fun x hx => (by rw [h3.1] at hx; cases hx), fun x hx => (by rw [h3.1] at hx; cases hx)⟩
 ·simp only [Value.slice.injEq] at h3
  have hlt := (Array.getElem?_eq_some_iff.1 h5).1
  exact ⟨fun x hx => (by rw [h3.1] at hx; cases hx; exact h4), fun x hx => (by rw [h3.1] at hx; cases hx; exact hlt)⟩
theorem ownsI_new_of {w : World} {B n c : Nat} {a : Option Addr} {l : List Int} (h : OwnsI w B (.slice a n c) l) : New B a ∧ ∀ x, a = some x → x.block < w.heap.size := by
 obtain ⟨_, h2⟩ := h
 rcases h2 with ⟨h3, _⟩ | ⟨g, cap, cur, h3, h4, h5, _⟩
 ·simp only [Value.slice.injEq] at h3
  exact ⟨fun x hx => (by rw [h3.1] at hx; cases hx), fun x hx => (by rw [h3.1] at hx; cases hx)⟩
 ·simp only [Value.slice.injEq] at h3
  have hlt := (Array.getElem?_eq_some_iff.1 h5).1
  exact ⟨fun x hx => (by rw [h3.1] at hx; cases hx; exact h4), fun x hx => (by rw [h3.1] at hx; cases hx; exact hlt)⟩
/-- The blocks that add turns. -/
def addF (gg : Nat) (pa : Option Addr) (k : Nat) : Prop := k = gg ∨ ∃ x, pa = some x ∧ x.block = k
/-- The block of a slice's own row. -/
theorem ownBlock_of {w : World} {B n : Nat} {t : TypeId} {s : Nat} {a : Option Addr} {c : Nat} {xs : List Value} (h : w.ownsRow B t s (.slice a n c) n xs) : (Value.slice a n c).ownBlock = a.map (·.block) := by
 rcases h.2 with ⟨h3, _⟩ | ⟨g, cap, cur, h3, _⟩
 ·simp only [Value.slice.injEq] at h3
  rw [h3.1]; rfl
 ·simp only [Value.slice.injEq] at h3
  rw [h3.1]; rfl
theorem ownsRow_block {w w' : World} {B n : Nat} {t : TypeId} {s : Nat} {a : Option Addr} {c : Nat} {xs : List Value} (h : w.ownsRow B t s (.slice a n c) n xs) (hb : ∀ x, a = some x → w'.heap[x.block]? = w.heap[x.block]?) : w'.ownsRow B t s (.slice a n c) n xs := by
 obtain ⟨h1, h2⟩ := h
 refine ⟨h1, ?_⟩
 rcases h2 with h2 | ⟨g, cap, cur, h3, h4, h5, h6⟩
 ·exact .inl h2
 ·refine .inr ⟨g, cap, cur, h3, h4, ?_, h6⟩
  simp only [Value.slice.injEq] at h3
  exact (hb _ h3.1).trans h5
theorem ownsRow_ne {w : World} {B n : Nat} {t t' : TypeId} {s : Nat} {a : Option Addr} {c : Nat} {xs : List Value} (h : w.ownsRow B t s (.slice a n c) n xs) {g : Nat} {cs : Array Value} (hb : Blk w g t' cs) (ht : t ≠ t') : ∀ x, a = some x → x.block ≠ g := fun x hx e => by
 rcases h.2 with ⟨h3, _⟩ | ⟨g', cap, cur, h3, _, h5, _⟩
 ·simp only [Value.slice.injEq] at h3
  rw [h3.1] at hx; cases hx
 ·simp only [Value.slice.injEq] at h3
  rw [h3.1] at hx; cases hx
  subst e
  have := h5.symm.trans hb
  simp at this
  exact ht this.2
theorem ownsRow_lt {w : World} {B n : Nat} {t : TypeId} {s : Nat} {a : Option Addr} {c : Nat} {xs : List Value} (h : w.ownsRow B t s (.slice a n c) n xs) : ∀ x, a = some x → x.block < w.heap.size := fun x hx => by
 rcases h.2 with ⟨h3, _⟩ | ⟨g', cap, cur, h3, _, h5, _⟩
 ·simp only [Value.slice.injEq] at h3
  rw [h3.1] at hx; cases hx
 ·simp only [Value.slice.injEq] at h3
  rw [h3.1] at hx; cases hx
  exact (Array.getElem?_eq_some_iff.1 h5).1
/-- What an append to the pieces and a store into the datagram leave. -/
structure Aft (w W : World) (gg : Nat) (pa : Option Addr) (n : Nat) (xs : List Value) (of : Int) (dat : List Int) (cs : Array Value) (gx cx : Nat) (a4 : Option Addr) (c4 : Nat) : Prop where
 blk : Blk W gg 75 cs
 row : W.ownsRow 0 117 2 (.slice (some ⟨gx, 0, none⟩) (n + 1) cx) (n + 1) (xs ++ [.int .i64 of, .slice a4 dat.length c4])
 data : Row W a4 dat
 room : dat.length ≤ c4
 nil : a4 = none → c4 = 0
 new : New w.heap.size a4
 apart : ∀ x, a4 = some x → x.block ≠ gx
 at_ : (∃ x, pa = some x ∧ x.block = gx) ∨ w.heap.size ≤ gx
 ne : gx ≠ gg
 ne4 : ∀ x, a4 = some x → x.block ≠ gg
 but : But (addF gg pa) w W
theorem Aft.put {w W : World} {gg : Nat} {pa : Option Addr} {n : Nat} {xs : List Value} {of : Int} {dat : List Int} {cs : Array Value} {gx cx : Nat} {a4 : Option Addr} {c4 : Nat} (h : Aft w W gg pa n xs of dat cs gx cx a4 c4) (i : Nat) (v : Value) : Aft w (W.setCell ⟨gg, i, none⟩ v) gg pa n xs of dat (cs.setIfInBounds i v) gx cx a4 c4 :=
 have hb : But (fun k => k = gg) W (W.setCell ⟨gg, i, none⟩ v) := (But.refl (fun k => k = gg) W).setCell gg i (.inl rfl) v
 ⟨h.blk.put i v, ownsRow_block h.row (fun x hx => by cases hx; exact hb.block gx (ownsRow_lt h.row _ rfl) h.ne), h.data.but hb (fun x hx e => h.ne4 x hx e), h.room, h.nil, h.new, h.apart, h.at_, h.ne, h.ne4, h.but.setCell gg i (.inl (.inl rfl)) v⟩
theorem Aft.drew {w W : World} {gg : Nat} {pa : Option Addr} {n : Nat} {xs : List Value} {of : Int} {dat : List Int} {cs : Array Value} {gx cx : Nat} {a4 : Option Addr} {c4 : Nat} (h : Aft w W gg pa n xs of dat cs gx cx a4 c4) : Aft w W.drew gg pa n xs of dat cs gx cx a4 c4 :=
 ⟨h.blk.drew, h.row, h.data.drewN 1, h.room, h.nil, h.new, h.apart, h.at_, h.ne, h.ne4, h.but.below (Below.refl _ _).drew⟩
/-- Behind the append. -/
theorem aft_app {w Wd W4 W5 W6 : World} {gg : Nat} {pa : Option Addr} {n pc : Nat} {xs : List Value} {of : Int} {dat : List Int} {cs : Array Value} {gx cx : Nat} {a4 : Option Addr} {c4 : Nat}
  (bd : But (addF gg pa) w Wd) (f4 : Fresh Wd W4 a4 c4 dat) (k5 : Below W4.heap.size W4 W5) (hsz : W4.heap.size ≤ W5.heap.size) (rd : Wd.ownsRow 0 117 2 (.slice pa n pc) n xs) (r5 : W5.ownsRow 0 117 2 (.slice pa n pc) n xs) (hg : Blk W5 gg 75 cs) (hgd : gg < Wd.heap.size)
  (r6 : W6.ownsRow 0 117 2 (.slice (some ⟨gx, 0, none⟩) (n + 1) cx) (n + 1) (xs ++ [.int .i64 of, .slice a4 dat.length c4])) (g6 : W5.grownBy W6 (Value.slice pa n pc).ownBlock) (at6 : (Value.slice pa n pc).ownBlock = some gx ∨ gx = W5.heap.size) : Aft w W6 gg pa n xs of dat cs gx cx a4 c4 := by
 have hob := ownBlock_of r5
 rw [hob] at g6 at6
 have hne := ownsRow_ne r5 hg (by decide)
 have hlt := ownsRow_lt rd
 obtain ⟨hnew, h4lt⟩ := owns_new_of f4.owns
 have hbs := bd.size
 have b6 : But (fun k => ∃ x, pa = some x ∧ x.block = k) W5 W6 := (But.refl _ _).grown g6 (fun m hm => .inl (by
  cases pa with
  | none => cases hm
  | some x => simp at hm; exact ⟨x, rfl, hm⟩))
 have ggne : ¬ ∃ x, pa = some x ∧ x.block = gg := fun ⟨x, h1, h2⟩ => hne x h1 h2
 have b5 : But (addF gg pa) w W5 := (bd.below f4.below).below k5
 refine ⟨hg.but b6 ggne, r6, (f4.row.below k5).but b6 (fun x hx ⟨y, h1, h2⟩ => ?_), f4.room, f4.nil, fun x hx => Nat.le_trans hbs (hnew x hx), fun x hx e => ?_, ?_, ?_, fun x hx e => ?_, b5.trans b6 (fun m _ hm => .inr hm)⟩
 ·have := hlt y h1
  have := hnew x hx
  omega
 ·rcases at6 with h | h
  ·cases pa with
   | none => cases h
   | some y => simp at h; have := hlt y rfl; have := hnew x hx; omega
  ·have := h4lt x hx
   omega
 ·rcases at6 with h | h
  ·cases pa with
   | none => cases h
   | some y => simp at h; exact .inl ⟨y, rfl, h⟩
  ·have := f4.below.size
   exact .inr (by omega)
 ·rcases at6 with h | h
  ·cases pa with
   | none => cases h
   | some y => simp at h; rw [← h]; exact hne y rfl
  ·have := f4.below.size
   omega
 ·have := hnew x hx
  omega
theorem pcells_app (ps : List Pc) (p : Pc) : pcells (ps ++ [p]) = pcells ps ++ [.int .i64 p.off, .slice p.da p.data.length p.dc] := by simp [pcells]
theorem info_pieceF : (Try.prog.info? 117).map (fun i => (i.zero, i.size, i.bytes)) = some (some (.agg #[.int .i64 0, .slice none 0 0]), 2, 32) := by kernel_rfl
end Go.Proofs.Ytkeeidfpgfdldaa
