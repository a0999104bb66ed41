/- Texts joined: SgK SgL -/
import Derived.Test.YtpjjkdgmfjhfiaaSgrR15
namespace Go.Proofs.Ytpjjkdgmfjhfiaa
open Go.RowKit
set_option linter.unusedVariables false
set_option linter.unusedSimpArgs false
theorem inner4_any (bk off dc : Nat) (b : List Int) (w : World) (h : Row w (some ⟨bk, off, none⟩) b) (hll : b.length ≤ 140737488351232) (hc : b.length ≤ dc) (hcm : dc ≤ 9223372036854775807) (hne : ¬ b.length = 0) :
    Calls Try.prog 84 #[.slice (some ⟨bk, off, none⟩) b.length dc] w fun e w' => e = .returned (.tuple #[.agg (tpv ((inner4 b).getD zTp)), .bool (inner4 b).isSome]) ∧ Below w.heap.size w w' := by
  by_cases h4 : b.getD 0 0 % 16 * 4 < 20
  · exact inner4_n1 bk off dc b w h hll hc hcm hne h4
  by_cases h5 : (b.length : Int) - b.getD 0 0 % 16 * 4 < 8
  · exact inner4_n2 bk off dc b w h hll hc hcm hne h4 h5
  · exact inner4_y bk off dc b w h hll hc hcm hne h4 h5
theorem inner6_any (bk off dc : Nat) (b : List Int) (w : World) (h : Row w (some ⟨bk, off, none⟩) b) (hll : b.length ≤ 140737488351232) (hc : b.length ≤ dc) (hcm : dc ≤ 9223372036854775807) (hne : ¬ b.length = 0) :
    Calls Try.prog 85 #[.slice (some ⟨bk, off, none⟩) b.length dc] w fun e w' => e = .returned (.tuple #[.agg (tpv ((inner6 b).getD zTp)), .bool (inner6 b).isSome]) ∧ Below w.heap.size w w' := by
  by_cases h4 : b.length < 40
  · exact inner6_n1 bk off dc b w h hll hc hcm hne h4
  by_cases h5 : wE (b.getD 6 0) (b.drop 40) = 0
  · by_cases h7 : (wS (b.getD 6 0) (b.drop 40)).l.length < 8
    · exact inner6_n3 bk off dc b w h hll hc hcm hne h4 h5 h7
    · exact inner6_y bk off dc b w h hll hc hcm hne h4 h5 h7
  · exact inner6_n2 bk off dc b w h hll hc hcm hne h4 h5
set_option maxRecDepth 100000 in
set_option maxHeartbeats 4000000 in
theorem innerWay_n1 (f : Int) (a : Option Addr) (c : Nat) (b : List Int) (w : World) (h : Row w a b) (hll : b.length ≤ 140737488351232) (hc : b.length ≤ c) (hcm : c ≤ 9223372036854775807) (h0 : b.length = 0) :
    Calls Try.prog 73 #[.int .i64 f, .slice a b.length c] w fun e w' => e = .returned (.tuple #[.agg (tpv ((inner f b).getD zTp)), .bool (inner f b).isSome]) ∧ Below w.heap.size w w' := by
  obtain ⟨W1, hW1⟩ : ∃ W1, w.alloc (.cells (sRb 0 0 0 0 0 0 0 0 0 0) 26) = W1 := ⟨_, rfl⟩
  have b1 := bel_nw hW1
  have B1 := blk_nw hW1
  have eN : inner f b = none := by
    unfold inner
    rw [if_pos h0]
  rw [eN]
  clear eN
  have h0' : ((b.length : Int) == 0) = true := by simpa using h0
  have h0'' : b = [] := by simpa using h0
  subst h0''
  have hbz : (Instr.build 26 #[]).run Try.prog W1 = .ok (.agg (sRb 0 0 0 0 0 0 0 0 0 0)) W1 := by kernel_rfl
  go_enter Try.func73, Try.ntmps73
  have Bf := B1.set (sRb 0 0 0 0 0 0 0 0 0 0)
  have bf := below_setRow b1 (Nat.le_refl _) (sRb 0 0 0 0 0 0 0 0 0 0)
  go_wp2_with (first
    | (refine wpList_build _ rfl _ _ rfl _ (by rfl) _ hbz ?_)
    | (refine wpList_store_row rfl _ _ _ rfl w.heap.size (sRb 0 0 0 0 0 0 0 0 0 0) (by rfl) (by rfl) _ _ B1 (by kernel_rfl) (by rfl) (by kernel_rfl) ?_))
  exact ret_cell_tmp (k := 4) (j := 5) Try.f73 (by kernel_rfl) Bf Try.underlying26 (by kernel_rfl) (by rfl) (by rfl) rfl ⟨rfl, bf⟩
set_option maxRecDepth 100000 in
set_option maxHeartbeats 4000000 in
theorem innerWay_n2 (f : Int) (a : Option Addr) (c : Nat) (b : List Int) (w : World) (h : Row w a b) (hll : b.length ≤ 140737488351232) (hc : b.length ≤ c) (hcm : c ≤ 9223372036854775807) (h0 : ¬ b.length = 0) (h4 : ¬ b.getD 0 0 / 16 = f) :
    Calls Try.prog 73 #[.int .i64 f, .slice a b.length c] w fun e w' => e = .returned (.tuple #[.agg (tpv ((inner f b).getD zTp)), .bool (inner f b).isSome]) ∧ Below w.heap.size w w' := by
  obtain ⟨W1, hW1⟩ : ∃ W1, w.alloc (.cells (sRb 0 0 0 0 0 0 0 0 0 0) 26) = W1 := ⟨_, rfl⟩
  have b1 := bel_nw hW1
  have B1 := blk_nw hW1
  have eN : inner f b = none := by
    unfold inner
    rw [if_neg h0, if_pos h4]
  rw [eN]
  clear eN
  obtain ⟨x0, e0⟩ : ∃ x, b.getD 0 0 = x := ⟨_, rfl⟩
  have q0 := h.bytes.get 0
  obtain ⟨bk, off, rfl, hcl⟩ := h.cells (by omega)
  have y0 := kept (b := bk) (o := off + 0) b1 (hcl 0 (by omega))
  rw [e0, Nat.add_zero] at y0
  rw [e0] at q0 h4
  have i0 : (0 : Int) < (b.length : Int) := by omega
  have hne' : ¬ b = [] := by intro e; rw [e] at h0; simp at h0
  have hnz : ((b.length : Int) == 0) = false := by simpa using h0
  have wx0 : IntKind.i64.wrap (x0 / 16) = x0 / 16 := wraps_i64 _ (by omega) (by omega)
  have h4' : (x0 / 16 != f) = true := by simpa using h4
  clear h4 hcl e0
  have hbz : (Instr.build 26 #[]).run Try.prog W1 = .ok (.agg (sRb 0 0 0 0 0 0 0 0 0 0)) W1 := by kernel_rfl
  go_enter Try.func73, Try.ntmps73
  have Bf := B1.set (sRb 0 0 0 0 0 0 0 0 0 0)
  have bf := below_setRow b1 (Nat.le_refl _) (sRb 0 0 0 0 0 0 0 0 0 0)
  go_wp2_with (first
    | (refine wpList_build _ rfl _ _ rfl _ (by rfl) _ hbz ?_)
    | (refine wpList_store_row rfl _ _ _ rfl w.heap.size (sRb 0 0 0 0 0 0 0 0 0 0) (by rfl) (by rfl) _ _ B1 (by kernel_rfl) (by rfl) (by kernel_rfl) ?_))
  exact ret_cell_tmp (k := 4) (j := 5) Try.f73 (by kernel_rfl) Bf Try.underlying26 (by kernel_rfl) (by rfl) (by rfl) rfl ⟨rfl, bf⟩
set_option maxRecDepth 100000 in
set_option maxHeartbeats 4000000 in
theorem innerWay_y4 (f : Int) (a : Option Addr) (c : Nat) (b : List Int) (w : World) (h : Row w a b) (hll : b.length ≤ 140737488351232) (hc : b.length ≤ c) (hcm : c ≤ 9223372036854775807) (h0 : ¬ b.length = 0) (h4 : b.getD 0 0 / 16 = f) (hf : f = 4) :
    Calls Try.prog 73 #[.int .i64 f, .slice a b.length c] w fun e w' => e = .returned (.tuple #[.agg (tpv ((inner f b).getD zTp)), .bool (inner f b).isSome]) ∧ Below w.heap.size w w' := by
  obtain ⟨W1, hW1⟩ : ∃ W1, w.alloc (.cells (sRb 0 0 0 0 0 0 0 0 0 0) 26) = W1 := ⟨_, rfl⟩
  have b1 := bel_nw hW1
  have B1 := blk_nw hW1
  obtain ⟨x0, e0⟩ : ∃ x, b.getD 0 0 = x := ⟨_, rfl⟩
  have q0 := h.bytes.get 0
  obtain ⟨bk, off, rfl, hcl⟩ := h.cells (by omega)
  have y0 := kept (b := bk) (o := off + 0) b1 (hcl 0 (by omega))
  rw [e0, Nat.add_zero] at y0
  rw [e0] at q0 h4
  have i0 : (0 : Int) < (b.length : Int) := by omega
  have hne' : ¬ b = [] := by intro e; rw [e] at h0; simp at h0
  have hnz : ((b.length : Int) == 0) = false := by simpa using h0
  have wx0 : IntKind.i64.wrap (x0 / 16) = x0 / 16 := wraps_i64 _ (by omega) (by omega)
  have h4' : (x0 / 16 != f) = false := by simpa using h4
  obtain ⟨TT, hTT⟩ : ∃ T, inner f b = T := ⟨_, rfl⟩
  have eT : inner4 b = TT := by rw [← hTT]; unfold inner; rw [if_neg h0, if_neg (by rw [e0]; simpa using h4), if_pos hf]
  have KK : Hid (∀ W, Row W (some ⟨bk, off, none⟩) b → Calls Try.prog 84 #[.slice (some ⟨bk, off, none⟩) b.length c] W fun e w' => e = .returned (.tuple #[.agg (tpv (TT.getD zTp)), .bool TT.isSome]) ∧ Below W.heap.size W w') := fun W hW => by
    have := inner4_any bk off c b W hW hll hc hcm h0
    rw [eT] at this
    exact this
  rw [hTT]
  obtain ⟨T, hT⟩ : ∃ T, TT.getD zTp = T := ⟨_, rfl⟩
  obtain ⟨S, hS⟩ : ∃ T, TT.isSome = T := ⟨_, rfl⟩
  rw [hT, hS] at KK ⊢
  clear hTT eT hT hS hcl h4 e0
  have f4 : (f == 4) = true := by simpa using hf
  clear hf
  go_enter Try.func73, Try.ntmps73
  go_wp2_with fail
  refine Calls.mono (KK.out _ (h.below b1)) ?_
  rintro e W2 ⟨rfl, bb⟩
  have b2 := bel_tr b1 bb
  have B2 := B1.kept bb
  have Bf := B2.set (tpv T)
  have bf := below_setRow b2 (Nat.le_refl _) (tpv T)
  clear KK bb
  go_wp2_with (refine wpList_store_row rfl _ _ _ rfl w.heap.size (tpv T) (by rfl) (by rfl) _ _ B2 (by kernel_rfl) (by rfl) (by kernel_rfl) ?_)
  exact ret_cell_tmp (k := 4) (j := 5) Try.f73 (by kernel_rfl) Bf Try.underlying26 (by kernel_rfl) (by rfl) (by rfl) rfl ⟨rfl, bf⟩
set_option maxRecDepth 100000 in
set_option maxHeartbeats 4000000 in
theorem innerWay_y6 (f : Int) (a : Option Addr) (c : Nat) (b : List Int) (w : World) (h : Row w a b) (hll : b.length ≤ 140737488351232) (hc : b.length ≤ c) (hcm : c ≤ 9223372036854775807) (h0 : ¬ b.length = 0) (h4 : b.getD 0 0 / 16 = f) (hf : ¬ f = 4) :
    Calls Try.prog 73 #[.int .i64 f, .slice a b.length c] w fun e w' => e = .returned (.tuple #[.agg (tpv ((inner f b).getD zTp)), .bool (inner f b).isSome]) ∧ Below w.heap.size w w' := by
  obtain ⟨W1, hW1⟩ : ∃ W1, w.alloc (.cells (sRb 0 0 0 0 0 0 0 0 0 0) 26) = W1 := ⟨_, rfl⟩
  have b1 := bel_nw hW1
  have B1 := blk_nw hW1
  obtain ⟨x0, e0⟩ : ∃ x, b.getD 0 0 = x := ⟨_, rfl⟩
  have q0 := h.bytes.get 0
  obtain ⟨bk, off, rfl, hcl⟩ := h.cells (by omega)
  have y0 := kept (b := bk) (o := off + 0) b1 (hcl 0 (by omega))
  rw [e0, Nat.add_zero] at y0
  rw [e0] at q0 h4
  have i0 : (0 : Int) < (b.length : Int) := by omega
  have hne' : ¬ b = [] := by intro e; rw [e] at h0; simp at h0
  have hnz : ((b.length : Int) == 0) = false := by simpa using h0
  have wx0 : IntKind.i64.wrap (x0 / 16) = x0 / 16 := wraps_i64 _ (by omega) (by omega)
  have h4' : (x0 / 16 != f) = false := by simpa using h4
  obtain ⟨TT, hTT⟩ : ∃ T, inner f b = T := ⟨_, rfl⟩
  have eT : inner6 b = TT := by rw [← hTT]; unfold inner; rw [if_neg h0, if_neg (by rw [e0]; simpa using h4), if_neg hf]
  have KK : Hid (∀ W, Row W (some ⟨bk, off, none⟩) b → Calls Try.prog 85 #[.slice (some ⟨bk, off, none⟩) b.length c] W fun e w' => e = .returned (.tuple #[.agg (tpv (TT.getD zTp)), .bool TT.isSome]) ∧ Below W.heap.size W w') := fun W hW => by
    have := inner6_any bk off c b W hW hll hc hcm h0
    rw [eT] at this
    exact this
  rw [hTT]
  obtain ⟨T, hT⟩ : ∃ T, TT.getD zTp = T := ⟨_, rfl⟩
  obtain ⟨S, hS⟩ : ∃ T, TT.isSome = T := ⟨_, rfl⟩
  rw [hT, hS] at KK ⊢
  clear hTT eT hT hS hcl h4 e0
  have f4 : (f == 4) = false := by simpa using hf
  clear hf
  go_enter Try.func73, Try.ntmps73
  go_wp2_with fail
  refine Calls.mono (KK.out _ (h.below b1)) ?_
  rintro e W2 ⟨rfl, bb⟩
  have b2 := bel_tr b1 bb
  have B2 := B1.kept bb
  have Bf := B2.set (tpv T)
  have bf := below_setRow b2 (Nat.le_refl _) (tpv T)
  clear KK bb
  go_wp2_with (refine wpList_store_row rfl _ _ _ rfl w.heap.size (tpv T) (by rfl) (by rfl) _ _ B2 (by kernel_rfl) (by rfl) (by kernel_rfl) ?_)
  exact ret_cell_tmp (k := 4) (j := 5) Try.f73 (by kernel_rfl) Bf Try.underlying26 (by kernel_rfl) (by rfl) (by rfl) rfl ⟨rfl, bf⟩
theorem innerWay_any (f : Int) (a : Option Addr) (c : Nat) (b : List Int) (w : World) (h : Row w a b) (hll : b.length ≤ 140737488351232) (hc : b.length ≤ c) (hcm : c ≤ 9223372036854775807) :
    Calls Try.prog 73 #[.int .i64 f, .slice a b.length c] w fun e w' => e = .returned (.tuple #[.agg (tpv ((inner f b).getD zTp)), .bool (inner f b).isSome]) ∧ Below w.heap.size w w' := by
  by_cases h0 : b.length = 0
  · exact innerWay_n1 f a c b w h hll hc hcm h0
  by_cases h4 : b.getD 0 0 / 16 = f
  · by_cases hf : f = 4
    · exact innerWay_y4 f a c b w h hll hc hcm h0 h4 hf
    · exact innerWay_y6 f a c b w h hll hc hcm h0 h4 hf
  · exact innerWay_n2 f a c b w h hll hc hcm h0 h4
/-- Cells put one behind the other. -/
def setMany (cur : Array Value) (j : Nat) : List Value → Array Value
  | [] => cur
  | v :: vs => setMany (cur.setIfInBounds j v) (j + 1) vs
theorem setRow_self {W : World} {g : Nat} {t : TypeId} {cs : Array Value} (h : Blk W g t cs) : W.setRow g cs = W := by
  have hlt : g < W.heap.size := h.lt
  have hv : W.heap[g] = .cells cs t (0, 0) := (Array.getElem?_eq_some_iff.1 h).2
  unfold World.setRow
  cases W with
  | mk heap tape drawn os output =>
    congr 1
    apply Array.ext
    · simp
    · intro k h1 h2
      simp only [Array.getElem_modify]
      split
      · rename_i hk; subst hk; simp at hv; simp [hv]
      · rfl
theorem run_storeCells_off (g k : Nat) (t : TypeId) : ∀ (vs : List Value) (i : Nat) (cur : Array Value) (w : World), Blk w g t cur → k + i + vs.length ≤ cur.size → (∀ v ∈ vs, v.oneCell' = true) →
    (storeCells ⟨g, k, none⟩ vs i).run Try.prog w = .ok () (w.setRow g (setMany cur (k + i) vs))
  | [], i, cur, w, hg, hl, _ => by
    simp only [storeCells, setMany]
    rw [setRow_self hg]
    rfl
  | v :: rest, i, cur, w, hg, hl, h1 => by
    have hi : k + i < cur.size := by simp at hl; omega
    have hadd : (⟨g, k, none⟩ : Addr).add i = ⟨g, k + i, none⟩ := Go.WideShapes.add_plain ..
    have hcell : w.cell? ⟨g, k + i, none⟩ = some cur[k + i] := hg.cell (k + i) _ (by simp [hi])
    have hfro : w.frozen? ⟨g, k + i, none⟩ = false := hg.frozen _
    have hst : (store ((⟨g, k, none⟩ : Addr).add i) v).run Try.prog w = .ok () (w.setRow g (cur.setIfInBounds (k + i) v)) := by
      rw [hadd, run_store Try.prog w _ v _ (h1 v (by simp)), hcell]
      simp [hfro, setCell_eq_setRow w g (k + i) cur t (0, 0) v hg]
    have ih := run_storeCells_off g k t rest (i + 1) (cur.setIfInBounds (k + i) v) (w.setRow g (cur.setIfInBounds (k + i) v)) (hg.set _) (by simp at hl ⊢; omega) (fun x hx => h1 x (by simp [hx]))
    simp only [storeCells, Sem.run_bind, hst, Result.andThen_ok, ih, setRow_setRow, setMany]
    rfl
theorem run_storeVar_off {W : World} {g k : Nat} {t ty : TypeId} {cur cells : Array Value} (h : Blk W g t cur) (hi : (Try.prog.info? ty).map (·.size) = some cells.size) (hl : k + cells.size ≤ cur.size) (h1 : cells.all (·.oneCell') = true) :
    (storeVar ty ⟨g, k, none⟩ (.agg cells)).run Try.prog W = .ok () (W.setRow g (setMany cur k cells.toList)) := by
  have := run_storeCells_off g k t cells.toList 0 cur W h (by simp; omega) (fun v hv => (Array.all_eq_true_iff_forall_mem.1 h1) v (by simpa using hv))
  cases hq : Try.prog.info? ty with
  | none => simp [hq] at hi
  | some i =>
    have hs : cells.size = i.size := by simp [hq] at hi; omega
    simp [storeVar, sizeOf, typeInfo, hq, Value.cells, hs, this]
theorem step_store_off {ops : Array Oper} {o : Oper} {ac : Act} {K : Act → World → Prop} {Q : Exit → Act → World → Prop} {Z : Prop} {w : World} (hgd : o.guard = none) (ty : TypeId) (p x : Operand) (ho : o.op = Op.store ty p x) (g k : Nat) (t : TypeId) (cs cur new : Array Value)
    (hp : ac.eval p = .pointer (some ⟨g, k, none⟩)) (hx : ac.eval x = .agg cs) (hb : Blk w g t cur) (hi : (Try.prog.info? ty).map (·.size) = some cs.size) (hl : k + cs.size ≤ cur.size) (h1 : cs.all (·.oneCell') = true) (hn : setMany cur k cs.toList = new) (h : K (ac.put o.dst undef) (w.setRow g new)) :
    if Region.wanted o (yielded ops ac.tmps) = true then Oper.wp Try.prog o ac w K Q else Z := by
  have hw : Region.wanted o (yielded ops ac.tmps) = true := by simp [Region.wanted, hgd]
  rw [if_pos hw]
  subst hn
  unfold Oper.wp execOp
  simp only [ho, hp, hx, Instr.storeAt, Instr.sureAddr, Sem.run_bind, Sem.run_pure, Result.andThen_ok, run_storeVar_off hb hi hl h1]
  exact h
theorem Owns.cap_le {w : World} {B c n : Nat} {a : Option Addr} {l : List Int} (h : Owns w B (.slice a n c) l) : c ≤ 9223372036854775807 := by
  obtain ⟨_, h⟩ := h
  rcases h with ⟨h3, _⟩ | ⟨g, cap, cur, h3, h4, h5, h6, h7, _⟩
  · simp only [Value.slice.injEq] at h3
    omega
  · simp only [Value.slice.injEq] at h3
    obtain ⟨_, _, rfl⟩ := h3
    unfold maxLen at h7
    omega
set_option maxRecDepth 100000 in
set_option maxHeartbeats 4000000 in
theorem icmp_e2 (f sf sh sl df dh dl pr ho : Int) (fg : Bool) (id of : Int) (mo : Bool) (xa : Option Addr) (xn xc : Nat) (da : Option Addr) (dc : Nat) (l : List Int) (w : World) (h : Row w da l) (hnil : da = none → dc = 0) (hc : l.length ≤ dc) (hcm : dc ≤ 9223372036854775807) (hs : Ad.ok ⟨sf, sh, sl⟩) (hd : Ad.ok ⟨df, dh, dl⟩) (h8 : l.length < 8) :
    Calls Try.prog 58 #[.agg (sRa f sf sh sl df dh dl pr ho fg id of mo xa xn xc da l.length dc)] w (GotS w 2 zSg) := by
  obtain ⟨W1, hW1⟩ : ∃ W1, w.alloc (.cells (sRa f sf sh sl df dh dl pr ho fg id of mo xa xn xc da l.length dc) 64) = W1 := ⟨_, rfl⟩
  obtain ⟨W2, hW2⟩ : ∃ W2, W1.alloc (.cells (sRc 0 0 0 0 0 0 0 0 0 0 0 0 0 0 0 0 false 0 0 0 0 0 0 0 0 0 0 none 0 0) 38) = W2 := ⟨_, rfl⟩
  have b1 := bel_nw hW1
  have b2 := bel_al b1 hW2
  have B1' := blk_nw hW1
  have B1 := B1'.al hW2
  have B2 := blk_nw hW2
  have g1 : w.heap.size < W1.heap.size := B1'.lt
  clear B1'
  have d0 := B1.cell 0 (.int .i64 f) rfl
  have d14 := B1.cell 14 (.slice da l.length dc) rfl
  have h8' : (l.length : Int) < 8 := by omega
  have hbz : (Instr.build 38 #[]).run Try.prog W2 = .ok (.agg (sRc 0 0 0 0 0 0 0 0 0 0 0 0 0 0 0 0 false 0 0 0 0 0 0 0 0 0 0 none 0 0)) W2 := by kernel_rfl
  go_enter Try.func58, Try.ntmps58
  have Bf := B2.set (sRc 0 0 0 0 0 0 0 0 0 0 0 0 0 0 0 0 false 0 0 0 0 0 0 0 0 0 0 none 0 0)
  have bf := below_setRow b2 (Nat.le_of_lt g1) (sRc 0 0 0 0 0 0 0 0 0 0 0 0 0 0 0 0 false 0 0 0 0 0 0 0 0 0 0 none 0 0)
  go_wp2_with (first
    | (refine wpList_build _ rfl _ _ rfl _ (by rfl) _ hbz ?_)
    | (refine wpList_store_row rfl _ _ _ rfl W1.heap.size (sRc 0 0 0 0 0 0 0 0 0 0 0 0 0 0 0 0 false 0 0 0 0 0 0 0 0 0 0 none 0 0) (by rfl) (by rfl) _ _ B2 (by kernel_rfl) (by rfl) (by kernel_rfl) ?_))
  exact ret_cell_tmp (k := 2) (j := 3) Try.f58 (by kernel_rfl) Bf Try.underlying38 (by kernel_rfl) (by rfl) (by rfl) rfl ⟨none, 0, rfl, fresh_nil bf⟩
set_option maxRecDepth 100000 in
set_option maxHeartbeats 4000000 in
theorem icmp_e6 (f sf sh sl df dh dl pr ho : Int) (fg : Bool) (id of : Int) (mo : Bool) (xa : Option Addr) (xn xc : Nat) (bk off dc : Nat) (l : List Int) (w : World) (h : Row w (some ⟨bk, off, none⟩) l) (hc : l.length ≤ dc) (hcm : dc ≤ 9223372036854775807) (hs : Ad.ok ⟨sf, sh, sl⟩) (hd : Ad.ok ⟨df, dh, dl⟩) (h8 : ¬ l.length < 8) (hsum : sumsB ⟨sf, sh, sl⟩ ⟨df, dh, dl⟩ pr l = false) :
    Calls Try.prog 58 #[.agg (sRa f sf sh sl df dh dl pr ho fg id of mo xa xn xc (some ⟨bk, off, none⟩) l.length dc)] w (GotS w 6 zSg) := by
  obtain ⟨W1, hW1⟩ : ∃ W1, w.alloc (.cells (sRa f sf sh sl df dh dl pr ho fg id of mo xa xn xc (some ⟨bk, off, none⟩) l.length dc) 64) = W1 := ⟨_, rfl⟩
  obtain ⟨W2, hW2⟩ : ∃ W2, W1.alloc (.cells (sRc 0 0 0 0 0 0 0 0 0 0 0 0 0 0 0 0 false 0 0 0 0 0 0 0 0 0 0 none 0 0) 38) = W2 := ⟨_, rfl⟩
  have b1 := bel_nw hW1
  have b2 := bel_al b1 hW2
  have B1' := blk_nw hW1
  have B1 := B1'.al hW2
  have B2 := blk_nw hW2
  have g1 : w.heap.size < W1.heap.size := B1'.lt
  clear B1'
  have d0 := B1.cell 0 (.int .i64 f) rfl
  have d14 := B1.cell 14 (.slice (some ⟨bk, off, none⟩) l.length dc) rfl
  have h8' : ¬ (l.length : Int) < 8 := by omega
  have KS : Hid (∀ W, Row W (some ⟨bk, off, none⟩) l → Calls Try.prog 67 #[.agg (sRa f sf sh sl df dh dl pr ho fg id of mo xa xn xc (some ⟨bk, off, none⟩) l.length dc), .slice (some ⟨bk, off, none⟩) l.length dc] W fun e w' => e = .returned (.bool false) ∧ Below W.heap.size W w') := fun W hW => by
    have := sumsUp_any f sf sh sl df dh dl pr ho fg id of mo xa xn xc (some ⟨bk, off, none⟩) dc l (some ⟨bk, off, none⟩) dc l W hW hs hd
    rw [hsum] at this
    exact this
  clear hsum
  go_enter Try.func58, Try.ntmps58
  have r2 := h.below b2
  go_wp2_with (refine wpList_load_row rfl _ _ rfl w.heap.size (by rfl) _ _ _ _ B1 Try.underlying64 rfl (by kernel_rfl) ?_)
  refine Calls.mono (KS.out _ r2) ?_
  rintro e W4 ⟨rfl, bb⟩
  have b4 := bel_tr b2 bb
  have B4 := B1.kept bb
  have B4' := B2.kept bb
  clear KS bb B1 B2 b2 r2 hW1 hW2 d0 d14
  have hbz : (Instr.build 38 #[]).run Try.prog W4 = .ok (.agg (sRc 0 0 0 0 0 0 0 0 0 0 0 0 0 0 0 0 false 0 0 0 0 0 0 0 0 0 0 none 0 0)) W4 := by kernel_rfl
  have Bf := B4'.set (sRc 0 0 0 0 0 0 0 0 0 0 0 0 0 0 0 0 false 0 0 0 0 0 0 0 0 0 0 none 0 0)
  have bf := below_setRow b4 (Nat.le_of_lt g1) (sRc 0 0 0 0 0 0 0 0 0 0 0 0 0 0 0 0 false 0 0 0 0 0 0 0 0 0 0 none 0 0)
  go_wp2_with (first
    | (refine wpList_build _ rfl _ _ rfl _ (by rfl) _ hbz ?_)
    | (refine wpList_store_row rfl _ _ _ rfl W1.heap.size (sRc 0 0 0 0 0 0 0 0 0 0 0 0 0 0 0 0 false 0 0 0 0 0 0 0 0 0 0 none 0 0) (by rfl) (by rfl) _ _ B4' (by kernel_rfl) (by rfl) (by kernel_rfl) ?_))
  exact ret_cell_tmp (k := 2) (j := 3) Try.f58 (by kernel_rfl) Bf Try.underlying38 (by kernel_rfl) (by rfl) (by rfl) rfl ⟨none, 0, rfl, fresh_nil bf⟩
end Go.Proofs.Ytpjjkdgmfjhfiaa
