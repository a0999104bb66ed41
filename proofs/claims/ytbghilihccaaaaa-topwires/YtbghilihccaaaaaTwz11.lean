/- Texts joined: FgG FgH BlkZ -/
import Derived.Test.YtbghilihccaaaaaTwz10
namespace Go.Proofs.Ytbghilihccaaaaa
open Go.RowKit
set_option linter.unusedVariables false
set_option linter.unusedSimpArgs false
set_option maxRecDepth 100000 in
set_option maxHeartbeats 4000000 in
theorem indexFunc_any (g : Gm) (gp ge : Nat) (of en : Int) (w : World) (hg : GmR w g) (hn : GmN g) (h7 : w.cell? ⟨gp, 11, none⟩ = some (.int .i64 of)) (he : w.cell? ⟨ge, 0, none⟩ = some (.int .i64 en)) :
    Calls Try.prog 85 #[.slice g.pa g.ps.length g.pc, .func (.func 72) #[] #[.pointer (some ⟨gp, 0, none⟩), .pointer (some ⟨ge, 0, none⟩)]] w fun e w' => ∃ r : Int, e = .returned (.int .i64 r) ∧ (0 ≤ r ↔ g.ps.any (shareB of en) = true) ∧ r ≤ 65535 ∧ Below w.heap.size w w' := by
  have few := hg.few
  have KS : Hid (∀ W q, Below w.heap.size w W → q ∈ g.ps → Calls Try.prog 72 #[.agg q.v, .pointer (some ⟨gp, 0, none⟩), .pointer (some ⟨ge, 0, none⟩)] W fun e w' => e = .returned (.bool (shareB of en q)) ∧ Below W.heap.size W w') := fun W q hb hq =>
    share_any q gp ge of en W (kept hb h7) (kept hb he) (hn.off q hq).1 (hn.off q hq).2.1 (hn.off q hq).2.2
  have HC : Hid (0 < g.ps.length → ∃ b, g.pa = some ⟨b, 0, none⟩ ∧ b < w.heap.size ∧ ∀ i p, g.ps[i]? = some p → w.cell? ⟨b, 2 * i, none⟩ = some (.int .i64 p.off) ∧ w.cell? ⟨b, 2 * i + 1, none⟩ = some (.slice p.da p.data.length p.dc)) := hg.cells
  clear hg hn h7 he
  go_enter Try.func85, Try.ntmps85
  go_wp2_with fail
  go_loopw [8] (fun i wr => ∃ (k : Nat), k ≤ g.ps.length ∧ i = .int .i64 k ∧ Below w.heap.size w wr ∧ Hid (∀ j p, j < k → g.ps[j]? = some p → shareB of en p = false)) (fun i _ => g.ps.length - (intOf i).toNat)
  case atStart => exact ⟨0, Nat.zero_le _, rfl, Below.refl _ _, fun j p hj => by omega⟩
  case round =>
    obtain ⟨k, hk, rfl, qb, qe⟩ := hrel
    by_cases hlt : k < g.ps.length
    · have ik : (k : Int) < (g.ps.length : Int) := by omega
      obtain ⟨b, hpa, hbl, hcs⟩ := HC.out (by omega)
      obtain ⟨p, hp⟩ : ∃ p, g.ps[k]? = some p := ⟨_, List.getElem?_eq_getElem hlt⟩
      obtain ⟨c0, c1⟩ := hcs k p hp
      have d0 := kept qb c0
      have d1 := kept qb c1
      rw [Nat.mul_comm] at d0 d1
      have hmem : p ∈ g.ps := List.mem_of_getElem? hp
      have KK : Hid _ := KS.out wr p qb hmem
      have HP : Hid (g.ps[k]? = some p) := hp
      rw [hpa]
      clear hcs c0 c1 hp
      go_wp2_with fail
      refine Calls.mono KK.out ?_
      rintro e W2 ⟨rfl, bb⟩
      have b2 := bel_tr qb bb
      clear KK bb d0 d1 qb
      cases hsb : shareB of en p with
      | true =>
        have hany : Hid (g.ps.any (shareB of en) = true) := List.any_eq_true.2 ⟨p, hmem, hsb⟩
        clear qe
        go_wp2
        go_ret
        exact ⟨k, rfl, ⟨fun _ => hany.out, fun _ => by omega⟩, by omega, b2⟩
      | false =>
        have HN : Hid (∀ j q, j < k + 1 → g.ps[j]? = some q → shareB of en q = false) := fun j q hj hq => by
          by_cases e : j = k
          · subst e
            rw [HP.out] at hq
            cases hq
            exact hsb
          · exact qe.out j q (by omega) hq
        clear qe
        go_wp2
        exact ⟨⟨k + 1, by omega, by go_num, b2, HN⟩, by simp [intOf]; omega⟩
    · have ik : ¬ (k : Int) < (g.ps.length : Int) := by omega
      have hall : g.ps.any (shareB of en) = false := by
        rw [List.any_eq_false]
        intro p hp
        obtain ⟨j, hj⟩ := List.getElem?_of_mem hp
        have hjl : j < g.ps.length := (List.getElem?_eq_some_iff.1 hj).1
        rw [qe.out j p (by omega) hj]
        decide
      clear qe
      go_wp2
      go_ret
      exact ⟨-1, rfl, by first | decide | (rw [hall]; decide), by decide, qb⟩
set_option maxRecDepth 100000 in
set_option maxHeartbeats 4000000 in
theorem contains_any (g : Gm) (gp ge : Nat) (of en : Int) (w : World) (hg : GmR w g) (hn : GmN g) (h7 : w.cell? ⟨gp, 11, none⟩ = some (.int .i64 of)) (he : w.cell? ⟨ge, 0, none⟩ = some (.int .i64 en)) :
    Calls Try.prog 73 #[.slice g.pa g.ps.length g.pc, .func (.func 72) #[] #[.pointer (some ⟨gp, 0, none⟩), .pointer (some ⟨ge, 0, none⟩)]] w fun e w' => e = .returned (.bool (g.ps.any (shareB of en))) ∧ Below w.heap.size w w' := by
  have K : Hid _ := indexFunc_any g gp ge of en w hg hn h7 he
  obtain ⟨B, hB⟩ : ∃ B, g.ps.any (shareB of en) = B := ⟨_, rfl⟩
  rw [hB] at K ⊢
  clear hg hn h7 he hB
  go_enter Try.func73, Try.ntmps73
  go_wp2_with fail
  refine Calls.mono K.out ?_
  rintro e W2 ⟨r, rfl, hr, _, bb⟩
  clear K
  by_cases c : 0 ≤ r
  · have hBt : B = true := hr.1 c
    subst hBt
    clear hr
    go_wp2
    go_ret
    exact ⟨by simp_all, bb⟩
  · have hBf : B = false := by
      cases B with
      | false => rfl
      | true => exact absurd (hr.2 rfl) c
    subst hBf
    clear hr
    go_wp2
    go_ret
    exact ⟨by simp_all, bb⟩
/-- Does a fragment clash with a datagram? -/
def clashB (g : Gm) (of : Int) (mo : Bool) (n : Nat) : Bool :=
  if (g.last && (!mo || decide (of + n > g.reach))) = true then true else if (!mo && decide (g.reach > of + n)) = true then true else g.ps.any (shareB of (of + n))
set_option maxRecDepth 100000 in
set_option maxHeartbeats 4000000 in
theorem clashes_any (g : Gm) (f sf sh sl df dh dl pr ho : Int) (fg : Bool) (id of : Int) (mo : Bool) (xa : Option Addr) (xc : Nat) (X : List Int) (da : Option Addr) (dc : Nat) (dat : List Int) (w : World) (hg : GmR w g) (hn : GmN g) (h0 : 0 ≤ of) (h1 : of ≤ 65528) (hl : dat.length ≤ 65535) :
    Calls Try.prog 45 #[.agg g.v, .agg #[.int .i64 f, .int .i64 sf, .int .u64 sh, .int .u64 sl, .int .i64 df, .int .u64 dh, .int .u64 dl, .int .i64 pr, .int .i64 ho, .bool fg, .int .u32 id, .int .i64 of, .bool mo, .slice xa X.length xc, .slice da dat.length dc]] w fun e w' => e = .returned (.bool (clashB g of mo dat.length)) ∧ Below w.heap.size w w' := by
  obtain ⟨W1, hW1⟩ : ∃ W, w.alloc (.cells g.v 75) = W := ⟨_, rfl⟩
  obtain ⟨W2, hW2⟩ : ∃ W, W1.alloc (.cells #[.int .i64 f, .int .i64 sf, .int .u64 sh, .int .u64 sl, .int .i64 df, .int .u64 dh, .int .u64 dl, .int .i64 pr, .int .i64 ho, .bool fg, .int .u32 id, .int .i64 of, .bool mo, .slice xa X.length xc, .slice da dat.length dc] 42) = W := ⟨_, rfl⟩
  have b1 := bel_nw hW1
  have b2 := bel_al b1 hW2
  have G1 := blk_nw hW1
  have G2 := G1.al hW2
  have P2 := blk_nw hW2
  have d11 := P2.cell 11 (.int .i64 of) rfl
  have d14 := P2.cell 14 (.slice da dat.length dc) rfl
  obtain ⟨EN, hEN⟩ : ∃ e, of + (dat.length : Int) = e := ⟨_, rfl⟩
  have wE : IntKind.i64.wrap (of + (dat.length : Int)) = EN := by rw [← hEN]; exact wraps_i64 _ (by omega) (by omega)
  obtain ⟨W3, hW3⟩ : ∃ W, W2.alloc (.cells #[.int .i64 EN] 3) = W := ⟨_, rfl⟩
  have b3 := bel_al b2 hW3
  have G3 := G2.al hW3
  have P3 := P2.al hW3
  have E3 := blk_nw hW3
  have KC : Hid _ := contains_any g W1.heap.size W2.heap.size of EN W3 (hg.below b3) hn (P3.cell 11 (.int .i64 of) rfl) (E3.cell 0 (.int .i64 EN) rfl)
  have e8 := P3.cell 12 (.bool mo) rfl
  have e20 := G3.cell 20 (.bool g.last) rfl
  have e19 := G3.cell 19 (.int .i64 g.reach) rfl
  have e17 := G3.cell 17 (.slice g.pa g.ps.length g.pc) rfl
  have ee := E3.cell 0 (.int .i64 EN) rfl
  unfold clashB
  rw [hEN]
  obtain ⟨lst, hlst⟩ : ∃ l, g.last = l := ⟨_, rfl⟩
  obtain ⟨rch, hrch⟩ : ∃ l, g.reach = l := ⟨_, rfl⟩
  obtain ⟨B, hB⟩ : ∃ l, g.ps.any (shareB of EN) = l := ⟨_, rfl⟩
  rw [hlst] at e20 ⊢
  rw [hrch] at e19 ⊢
  rw [hB] at KC ⊢
  clear hg hn G1 G2 P2 G3 P3 E3 hEN hlst hrch hB b1 b2
  go_enter Try.func45, Try.ntmps45
  cases lst <;> cases mo
  all_goals (
    go_wp2_with fail)
  all_goals first
    | (go_ret; exact ⟨by first | rfl | (simp_all; done) | (simp_all; omega), b3⟩)
    | (refine Calls.mono KC.out ?_; rintro e W4 ⟨rfl, bb⟩; have b4 := bel_tr b3 bb; clear KC bb; go_wp2; all_goals go_ret; all_goals exact ⟨by first | rfl | (simp_all; done) | (simp_all; omega) | (simp_all; intro h; omega), b4⟩)
/-- Cells put one behind the other. -/
def setMany (cur : Array Value) (j : Nat) : List Value → Array Value
  | [] => cur
  | v :: vs => setMany (cur.setIfInBounds j v) (j + 1) vs
theorem setRow_self {W : World} {g : Nat} {t : TypeId} {cs : Array Value} (h : Blk W g t cs) : W.setRow g cs = W := by
  have hlt : g < W.heap.size := h.lt
  have hv : W.heap[g] = .cells cs t (0, 0) := (Array.getElem?_eq_some_iff.1 h).2
  unfold World.setRow
  cases W with
  | mk heap tape drawn os output =>
    congr 1
    apply Array.ext
    · simp
    · intro k h1 h2
      simp only [Array.getElem_modify]
      split
      · rename_i hk; subst hk; simp at hv; simp [hv]
      · rfl
theorem run_storeCells_off (g k : Nat) (t : TypeId) : ∀ (vs : List Value) (i : Nat) (cur : Array Value) (w : World), Blk w g t cur → k + i + vs.length ≤ cur.size → (∀ v ∈ vs, v.oneCell' = true) →
    (storeCells ⟨g, k, none⟩ vs i).run Try.prog w = .ok () (w.setRow g (setMany cur (k + i) vs))
  | [], i, cur, w, hg, hl, _ => by
    simp only [storeCells, setMany]
    rw [setRow_self hg]
    rfl
  | v :: rest, i, cur, w, hg, hl, h1 => by
    have hi : k + i < cur.size := by simp at hl; omega
    have hadd : (⟨g, k, none⟩ : Addr).add i = ⟨g, k + i, none⟩ := Go.WideShapes.add_plain ..
    have hcell : w.cell? ⟨g, k + i, none⟩ = some cur[k + i] := hg.cell (k + i) _ (by simp [hi])
    have hfro : w.frozen? ⟨g, k + i, none⟩ = false := hg.frozen _
    have hst : (store ((⟨g, k, none⟩ : Addr).add i) v).run Try.prog w = .ok () (w.setRow g (cur.setIfInBounds (k + i) v)) := by
      rw [hadd, run_store Try.prog w _ v _ (h1 v (by simp)), hcell]
      simp [hfro, setCell_eq_setRow w g (k + i) cur t (0, 0) v hg]
    have ih := run_storeCells_off g k t rest (i + 1) (cur.setIfInBounds (k + i) v) (w.setRow g (cur.setIfInBounds (k + i) v)) (hg.set _) (by simp at hl ⊢; omega) (fun x hx => h1 x (by simp [hx]))
    simp only [storeCells, Sem.run_bind, hst, Result.andThen_ok, ih, setRow_setRow, setMany]
    rfl
theorem run_storeVar_off {W : World} {g k : Nat} {t ty : TypeId} {cur cells : Array Value} (h : Blk W g t cur) (hi : (Try.prog.info? ty).map (·.size) = some cells.size) (hl : k + cells.size ≤ cur.size) (h1 : cells.all (·.oneCell') = true) :
    (storeVar ty ⟨g, k, none⟩ (.agg cells)).run Try.prog W = .ok () (W.setRow g (setMany cur k cells.toList)) := by
  have := run_storeCells_off g k t cells.toList 0 cur W h (by simp; omega) (fun v hv => (Array.all_eq_true_iff_forall_mem.1 h1) v (by simpa using hv))
  cases hq : Try.prog.info? ty with
  | none => simp [hq] at hi
  | some i =>
    have hs : cells.size = i.size := by simp [hq] at hi; omega
    simp [storeVar, sizeOf, typeInfo, hq, Value.cells, hs, this]
theorem step_store_off {ops : Array Oper} {o : Oper} {ac : Act} {K : Act → World → Prop} {Q : Exit → Act → World → Prop} {Z : Prop} {w : World} (hgd : o.guard = none) (ty : TypeId) (p x : Operand) (ho : o.op = Op.store ty p x) (g k : Nat) (t : TypeId) (cs cur new : Array Value)
    (hp : ac.eval p = .pointer (some ⟨g, k, none⟩)) (hx : ac.eval x = .agg cs) (hb : Blk w g t cur) (hi : (Try.prog.info? ty).map (·.size) = some cs.size) (hl : k + cs.size ≤ cur.size) (h1 : cs.all (·.oneCell') = true) (hn : setMany cur k cs.toList = new) (h : K (ac.put o.dst undef) (w.setRow g new)) :
    if Region.wanted o (yielded ops ac.tmps) = true then Oper.wp Try.prog o ac w K Q else Z := by
  have hw : Region.wanted o (yielded ops ac.tmps) = true := by simp [Region.wanted, hgd]
  rw [if_pos hw]
  subst hn
  unfold Oper.wp execOp
  simp only [ho, hp, hx, Instr.storeAt, Instr.sureAddr, Sem.run_bind, Sem.run_pure, Result.andThen_ok, run_storeVar_off hb hi hl h1]
  exact h
end Go.Proofs.Ytbghilihccaaaaa
