/- Texts joined: FpG FpH FpI FpJ FpK -/
import Derived.Test.YtkeeidfpgfdldaaFpz23
import Derived.Deep.AppendLies
import Derived.Laws.AppendOwnNone
namespace Go.Proofs.Ytkeeidfpgfdldaa
open Go.RowKit
set_option linter.unusedVariables false
set_option linter.unusedSimpArgs false
abbrev z11 : Array Value := #[.int .i64 0, .int .u64 0, .int .u64 0, .int .i64 0, .int .u64 0, .int .u64 0, .int .i64 0, .int .u32 0, .slice none 0 0, .int .i64 0, .bool false]
theorem info_gram : (Try.prog.info? 79).map (fun i => (i.zero, i.size, i.bytes)) = some (some (.agg z11), 11, 104) := by kernel_rfl
theorem info_g (g : DgIn) : (Try.prog.info? 79).map (·.size) = some g.v.size := by kernel_rfl
abbrev pc11 (L : List DgIn) : List Value := L.flatMap fun q => q.v.toList
theorem dgv_len (q : DgIn) : q.v.toList.length = 11 := rfl
/-- A slice of the document's datagrams, of one's own. -/
def OwnG (w : World) (B : Nat) (a : Option Addr) (c : Nat) (L : List DgIn) : Prop := w.ownsRow B 79 11 (.slice a L.length c) L.length (pc11 L)
theorem OwnG.nil (w : World) (B : Nat) : OwnG w B none 0 [] := World.ownsRow_nil _ _ _ _
theorem OwnG.below {w w' : World} {B : Nat} {a : Option Addr} {c : Nat} {l : List DgIn} (h : OwnG w B a c l) (hb : Below w.heap.size w w') : OwnG w' B a c l := by
 obtain ⟨h1, h2⟩ := h
 refine ⟨h1, ?_⟩
 rcases h2 with h2 | ⟨g, cap, cur, h3, h4, h5, h6⟩
 ·exact .inl h2
 ·refine .inr ⟨g, cap, cur, h3, h4, (hb.block g ?_).trans h5, h6⟩
  exact (Array.getElem?_eq_some_iff.1 h5).1
theorem OwnG.row {w : World} {B : Nat} {a : Option Addr} {c : Nat} {l : List DgIn} (h : OwnG w B a c l) (hl : ∀ r ∈ l, r.ok w) : RowG w a l := by
 refine ⟨hl, fun i q hi => ?_⟩
 have hlt : i < l.length := (List.getElem?_eq_some_iff.1 hi).1
 obtain ⟨h1, h2⟩ := h
 rcases h2 with ⟨h3, h4⟩ | ⟨g, cap, cur, h3, h4, h5, h6, h7, h8, h9⟩
 ·omega
 ·simp only [Value.slice.injEq] at h3
  obtain ⟨rfl, _, rfl⟩ := h3
  have B : Blk w g 79 cur := h5
  refine ⟨g, 0, rfl, B.lt, fun j v hj => B.cell _ v ?_⟩
  have hj' : j < 11 := (Array.getElem?_eq_some_iff.1 hj).1
  have h10 := fl_get (fun q : DgIn => q.v.toList) 11 dgv_len l i j q hi hj'
  have h11 : (cur.toList.take (l.length * 11))[i * 11 + j]? = q.v.toList[j]? := by rw [h9]; exact h10
  rw [List.getElem?_take_of_lt (by omega)] at h11
  rw [Array.getElem?_toList] at h11
  rw [Nat.zero_add, h11]
  simpa using hj
theorem OwnG.lt {w : World} {B : Nat} {a : Option Addr} {c : Nat} {l : List DgIn} (h : OwnG w B a c l) : ∀ y, a = some y → B ≤ y.block := by
 intro y hy
 obtain ⟨h1, h2⟩ := h
 rcases h2 with ⟨h2, _⟩ | ⟨g, cap, cur, h3, h4, h5, h6⟩
 ·simp only [Value.slice.injEq] at h2
  rw [h2.1] at hy
  cases hy
 ·simp only [Value.slice.injEq] at h3
  rw [h3.1] at hy
  cases hy
  exact h4
/-- append(v, x) of one datagram, which lies in a new block. -/
theorem wpList_appG {ops : Array Oper} {rest : List Oper} {o : Oper} {ac : Act} {Q : Exit → Act → World → Prop} (w : World) (hgd : o.guard = none) (s x : Operand)
  (ho : o.op = .call { callee := .builtin .append, args := #[s, x], argTypes := #[29, 29] })
  (B : Nat) (a : Option Addr) (c : Nat) (xs : List DgIn) (hs : ac.eval s = .slice a xs.length c) (hown : OwnG w B a c xs)
  (g0 cc : Nat) (y : DgIn) (hx : ac.eval x = .slice (some ⟨g0, 0, none⟩) 1 cc) (hc : CellsAt w g0 0 y.v)
  (hsum : xs.length + 1 ≤ 1000000) (hbase : B ≤ w.heap.size)
  (h : ∀ g c' w', OwnG w' B (some ⟨g, 0, none⟩) c' (xs ++ [y]) → Below B w w' → wpList Try.prog ops Q rest (ac.put o.dst (.slice (some ⟨g, 0, none⟩) (xs.length + 1) c')) w') : wpList Try.prog ops Q (o :: rest) ac w := by
 obtain ⟨i0, hi, hz0, hz1, hz2⟩ := info_parts info_gram
 refine wpList_append_lies w hgd s x 29 ho B 79 i0 (.agg z11) 11 104 Try.underlying29 hi hz0 hz1 hz2 rfl (by decide) (.slice a xs.length c) xs.length (pc11 xs) hs hown ⟨g0, 0, none⟩ 1 cc y.v.toList hx (by simp) ?_ (by
   intro u hu
   simp only [List.mem_cons, List.not_mem_nil, or_false] at hu
   rcases hu with rfl | rfl | rfl | rfl | rfl | rfl | rfl | rfl | rfl | rfl | rfl <;> rfl) (by decide) (by unfold maxLen; omega) (by omega) hbase _ rfl ?_
 ·intro j u hj
  have := hc.2 j u (by simpa using hj)
  rw [show (⟨g0, 0, none⟩ : Addr).add j = ⟨g0, 0 + j, none⟩ from Go.WideShapes.add_plain ..]
  exact this
 ·intro g cap w' h1 h2 h3 h4
  refine h g cap w' ?_ ((Below.refl _ _).grown h2 hbase fun k hk => ?_)
  ·show w'.ownsRow B 79 11 _ (xs ++ [y]).length (pc11 (xs ++ [y]))
   have e : pc11 (xs ++ [y]) = pc11 xs ++ y.v.toList := by simp [pc11]
   rw [List.length_append, e]
   exact h1
  ·cases a with
   | none => cases hk
   | some ad' =>
    have e : ad'.block = k := by
     cases ad'
     simpa [Value.ownBlock] using hk
    rw [← e]
    exact OwnG.lt hown ad' rfl
/-! Blocks that are not the table's. -/
def farA (tb : Nat) (a : Option Addr) : Prop := ∀ x, a = some x → x.block ≠ tb
def FarP (tb : Nat) (q : PkIn) : Prop := farA tb q.xa ∧ farA tb q.da
def FarD (tb : Nat) (g : DgIn) : Prop := farA tb g.pa ∧ ∀ q ∈ g.ps, FarP tb q
theorem set_far {w : World} {tb i b o : Nat} {v : Value} (h : b ≠ tb) : (w.setCell ⟨tb, i, none⟩ v).cell? ⟨b, o, none⟩ = w.cell? ⟨b, o, none⟩ := put_other (by simp [h])
theorem rowI_far {w : World} {a : Option Addr} {l : List Int} (h : RowI w a l) {tb i : Nat} {v : Value} (hf : farA tb a) : RowI (w.setCell ⟨tb, i, none⟩ v) a l :=
 ⟨h.small, fun hl => by
  obtain ⟨b, off, ha, hc⟩ := h.cells hl
  exact ⟨b, off, ha, fun j hj => (set_far (hf _ ha)).trans (hc j hj)⟩⟩
theorem row_far {w : World} {a : Option Addr} {l : List Int} (h : Row w a l) {tb i : Nat} {v : Value} (hf : farA tb a) : Row (w.setCell ⟨tb, i, none⟩ v) a l :=
 ⟨h.small, h.bytes, fun hl => by
  obtain ⟨b, off, ha, hc⟩ := h.cells hl
  exact ⟨b, off, ha, fun j hj => (set_far (hf _ ha)).trans (hc j hj)⟩⟩
theorem PkIn.ok.far {w : World} {q : PkIn} (h : q.ok w) {tb i : Nat} {v : Value} (hf : FarP tb q) : q.ok (w.setCell ⟨tb, i, none⟩ v) := ⟨h.p, rowI_far h.exts hf.1, h.xnil, row_far h.data hf.2, h.dnil⟩
theorem CellsAt.far {w : World} {b k : Nat} {sub : Array Value} (h : CellsAt w b k sub) {tb i : Nat} {v : Value} (hf : b ≠ tb) : CellsAt (w.setCell ⟨tb, i, none⟩ v) b k sub :=
 ⟨by simpa using h.1, fun j x hx => (set_far hf).trans (h.2 j x hx)⟩
theorem DgIn.ok.far {w : World} {g : DgIn} (h : g.ok w) {tb i : Nat} {v : Value} (hf : FarD tb g) : g.ok (w.setCell ⟨tb, i, none⟩ v) :=
 ⟨⟨fun q hq => (h.row.each q hq).far (hf.2 q hq), fun j q hq => by
  obtain ⟨b, off, ha, hc⟩ := h.row.cells j q hq
  exact ⟨b, off, ha, hc.far (hf.1 _ ha)⟩⟩, h.in_, h.few⟩
theorem RowG.far {w : World} {a : Option Addr} {L : List DgIn} (h : RowG w a L) {tb i : Nat} {v : Value} (ha : farA tb a) (hL : ∀ g ∈ L, FarD tb g) : RowG (w.setCell ⟨tb, i, none⟩ v) a L :=
 ⟨fun g hg => (h.each g hg).far (hL g hg), fun j g hg => by
  obtain ⟨b, off, ha', hc⟩ := h.cells j g hg
  exact ⟨b, off, ha', hc.far (ha _ ha')⟩⟩
abbrev tabV (mo ro li cl : Int) (ga : Option Addr) (n gc : Nat) : Array Value := #[.int .i64 mo, .int .i64 ro, .int .i64 li, .int .i64 cl, .slice ga n gc]
theorem tab_cells {W : World} {b : Nat} {t : TypeId} {mo ro li cl : Int} {ga : Option Addr} {n gc : Nat} (h : Blk W b t (tabV mo ro li cl ga n gc)) : W.cell? ⟨b, 0, none⟩ = some (.int .i64 mo) ∧ W.cell? ⟨b, 1, none⟩ = some (.int .i64 ro) ∧ W.cell? ⟨b, 2, none⟩ = some (.int .i64 li) ∧ W.cell? ⟨b, 3, none⟩ = some (.int .i64 cl) ∧ W.cell? ⟨b, 4, none⟩ = some (.slice ga n gc) :=
 ⟨h.cell 0 _ rfl, h.cell 1 _ rfl, h.cell 2 _ rfl, h.cell 3 _ rfl, h.cell 4 _ rfl⟩
/-- The document's table: its numbers, its datagrams, none of which lies in the table's own block. -/
structure DocT (w : World) (tb : Nat) (mo ro li cl : Int) (ga : Option Addr) (gc : Nat) (L : List DgIn) : Prop where
 blk : Blk w tb 31 (tabV mo ro li cl ga L.length gc)
 row : RowG w ga L
 far : farA tb ga
 each : ∀ g ∈ L, FarD tb g
 few : L.length ≤ 65536
def keptL (now : Int) (L : List DgIn) : List DgIn := L.filter fun g => decide (now < g.ends)
theorem kept_take (now : Int) (L : List DgIn) (k : Nat) (g : DgIn) (h : L[k]? = some g) : keptL now (L.take (k + 1)) = if now < g.ends then keptL now (L.take k) ++ [g] else keptL now (L.take k) := by
 unfold keptL
 rw [List.take_add_one, h, List.filter_append]
 by_cases hx : now < g.ends <;> simp [hx]
def badNew (g b l : Int) : Prop := g < 0 ∨ g > 256 ∨ b < 0 ∨ b > 1048576 ∨ l < 1 ∨ l > 1099511627776
set_option maxRecDepth 100000 in
set_option maxHeartbeats 4000000 in
theorem rnew_bad (g b l : Int) (w : World) (h : badNew g b l) : Calls Try.prog 13 #[.int .i64 g, .int .i64 b, .int .i64 l] w fun e w' => e = .returned (.tuple #[.agg (tabV 0 0 0 0 none 0 0), .int .i64 1]) ∧ Below w.heap.size w w' := by
 have hb := blk_new w (tabV 0 0 0 0 none 0 0) 31
 have bel : Below w.heap.size w (w.alloc (.cells (tabV 0 0 0 0 none 0 0) 31)) := bel_nw rfl
 by_cases h0 : g < 0
 ·have e0 : decide (g < 0) = true := decide_eq_true h0
  clear h
  go_enter Try.func13, Try.ntmps13
  go_wp2_with fail
  exact ret_cell_tmp (k := 6) (j := 7) Try.f13 (by kernel_rfl) hb Try.underlying31 (by kernel_rfl) (by rfl) (by rfl) rfl ⟨rfl, bel⟩
 have e0 : decide (g < 0) = false := decide_eq_false h0
 replace h0 := Int.not_lt.1 h0
 by_cases h1 : g > 256
 ·have e1 : decide (g > 256) = true := decide_eq_true h1
  clear h
  go_enter Try.func13, Try.ntmps13
  go_wp2_with fail
  exact ret_cell_tmp (k := 6) (j := 7) Try.f13 (by kernel_rfl) hb Try.underlying31 (by kernel_rfl) (by rfl) (by rfl) rfl ⟨rfl, bel⟩
 have e1 : decide (g > 256) = false := decide_eq_false h1
 replace h1 := Int.not_lt.1 h1
 by_cases h2 : b < 0
 ·have e2 : decide (b < 0) = true := decide_eq_true h2
  clear h
  go_enter Try.func13, Try.ntmps13
  go_wp2_with fail
  exact ret_cell_tmp (k := 6) (j := 7) Try.f13 (by kernel_rfl) hb Try.underlying31 (by kernel_rfl) (by rfl) (by rfl) rfl ⟨rfl, bel⟩
 have e2 : decide (b < 0) = false := decide_eq_false h2
 replace h2 := Int.not_lt.1 h2
 by_cases h3 : b > 1048576
 ·have e3 : decide (b > 1048576) = true := decide_eq_true h3
  clear h
  go_enter Try.func13, Try.ntmps13
  go_wp2_with fail
  exact ret_cell_tmp (k := 6) (j := 7) Try.f13 (by kernel_rfl) hb Try.underlying31 (by kernel_rfl) (by rfl) (by rfl) rfl ⟨rfl, bel⟩
 have e3 : decide (b > 1048576) = false := decide_eq_false h3
 replace h3 := Int.not_lt.1 h3
 by_cases h4 : l < 1
 ·have e4 : decide (l < 1) = true := decide_eq_true h4
  clear h
  go_enter Try.func13, Try.ntmps13
  go_wp2_with fail
  exact ret_cell_tmp (k := 6) (j := 7) Try.f13 (by kernel_rfl) hb Try.underlying31 (by kernel_rfl) (by rfl) (by rfl) rfl ⟨rfl, bel⟩
 have e4 : decide (l < 1) = false := decide_eq_false h4
 replace h4 := Int.not_lt.1 h4
 by_cases h5 : l > 1099511627776
 ·have e5 : decide (l > 1099511627776) = true := decide_eq_true h5
  clear h
  go_enter Try.func13, Try.ntmps13
  go_wp2_with fail
  exact ret_cell_tmp (k := 6) (j := 7) Try.f13 (by kernel_rfl) hb Try.underlying31 (by kernel_rfl) (by rfl) (by rfl) rfl ⟨rfl, bel⟩
 have e5 : decide (l > 1099511627776) = false := decide_eq_false h5
 replace h5 := Int.not_lt.1 h5
 exfalso
 unfold badNew at h
 omega
set_option maxRecDepth 100000 in
set_option maxHeartbeats 4000000 in
theorem rnew_yes (g b l : Int) (w : World) (h : ¬ badNew g b l) : Calls Try.prog 13 #[.int .i64 g, .int .i64 b, .int .i64 l] w fun e w' => e = .returned (.tuple #[.agg (tabV g b l 0 none 0 0), .int .i64 0]) ∧ Below w.heap.size w w' := by
 have hb := blk_new w (tabV g b l 0 none 0 0) 31
 have bel : Below w.heap.size w (w.alloc (.cells (tabV g b l 0 none 0 0) 31)) := bel_nw rfl
 unfold badNew at h
 have e0 : decide (g < 0) = false := decide_eq_false (by omega)
 have e1 : decide (g > 256) = false := decide_eq_false (by omega)
 have e2 : decide (b < 0) = false := decide_eq_false (by omega)
 have e3 : decide (b > 1048576) = false := decide_eq_false (by omega)
 have e4 : decide (l < 1) = false := decide_eq_false (by omega)
 have e5 : decide (l > 1099511627776) = false := decide_eq_false (by omega)
 have k0 : 0 ≤ g ∧ g ≤ 256 := by omega
 have k1 : 0 ≤ b ∧ b ≤ 1048576 := by omega
 have k2 : 1 ≤ l ∧ l ≤ 1099511627776 := by omega
 clear h
 go_enter Try.func13, Try.ntmps13
 go_wp2_with fail
 exact ret_cell_tmp (k := 6) (j := 7) Try.f13 (by kernel_rfl) hb Try.underlying31 (by kernel_rfl) (by rfl) (by rfl) rfl ⟨rfl, bel⟩
theorem nextP_snoc (l : List Pkt) (q : Pkt) (a : Int) : nextP (l ++ [q]) a = if q.of = a then some q else nextP l a := by
 unfold nextP
 rw [List.filter_append]
 by_cases h : q.of = a
 ·rw [if_pos h]
  have : [q].filter (fun p => p.of == a) = [q] := by simp [h]
  rw [this, List.getLast?_append]
  simp
 ·rw [if_neg h]
  have : [q].filter (fun p => p.of == a) = [] := by simp [h]
  rw [this, List.append_nil]
theorem next_take (ps : List PkIn) (m : Nat) (q : PkIn) (a : Int) (h : ps[m]? = some q) : nextP ((ps.take (m + 1)).map (·.p)) a = if q.p.of = a then some q.p else nextP ((ps.take m).map (·.p)) a := by
 rw [List.take_add_one, h]
 simp only [Option.toList_some, List.map_append, List.map_cons, List.map_nil]
 exact nextP_snoc _ _ _
theorem wpList_store_blk {ops : Array Oper} {rest : List Oper} {o : Oper} {ac : Act} {w : World} {Q : Exit → Act → World → Prop} (hgd : o.guard = none) (t : TypeId) (p x : Operand) (ho : o.op = Op.store t p x) (g : Nat) (cs old : Array Value)
  (hp : ac.eval p = .pointer (some ⟨g, 0, none⟩)) (hx : ac.eval x = .agg cs) (hb : Blk w g t old) (hi : (Try.prog.info? t).map (·.size) = some cs.size) (ho' : old.size = cs.size) (h1 : cs.all (·.oneCell') = true) (h : wpList Try.prog ops Q rest (ac.put o.dst undef) (w.setRow g cs)) : wpList Try.prog ops Q (o :: rest) ac w :=
 wpList_plain hgd fun K hK => wp_store_row t p x ho g cs hp hx t old hb hi ho' h1 (hK _ _ h)
theorem wp_run_app {o : Oper} {ac : Act} {K : Act → World → Prop} {Q : Exit → Act → World → Prop} {w : World} (t : TypeId) (s x : Operand)
  (ho : o.op = .call { callee := .builtin .append, args := #[s, x], argTypes := #[t, t] }) (v1 v2 : Value) (hs : ac.eval s = v1) (hx : ac.eval x = v2) (r : Value) (w' : World)
  (hrun : (Builtin.append_ #[t, t] o.type #[v1, v2]).run Try.prog w = .ok r w') (h : K (ac.put o.dst r) w') : Oper.wp Try.prog o ac w K Q := by
 unfold Oper.wp execOp
 simp only [ho, resolve, invoke, builtin, Sem.run_bind, Sem.run_pure, Result.andThen_ok, List.map_toArray, List.map_cons, List.map_nil, hs, hx, hrun]
 exact h
theorem wpList_run_app {ops : Array Oper} {rest : List Oper} {o : Oper} {ac : Act} {Q : Exit → Act → World → Prop} {w : World} (hgd : o.guard = none) (t : TypeId) (s x : Operand)
  (ho : o.op = .call { callee := .builtin .append, args := #[s, x], argTypes := #[t, t] }) (v1 v2 : Value) (hs : ac.eval s = v1) (hx : ac.eval x = v2) (r : Value) (w' : World)
  (hrun : (Builtin.append_ #[t, t] o.type #[v1, v2]).run Try.prog w = .ok r w') (h : wpList Try.prog ops Q rest (ac.put o.dst r) w') : wpList Try.prog ops Q (o :: rest) ac w :=
 wpList_plain hgd fun K hK => wp_run_app t s x ho v1 v2 hs hx r w' hrun (hK _ _ h)
theorem step_run_app {ops : Array Oper} {o : Oper} {ac : Act} {K : Act → World → Prop} {Q : Exit → Act → World → Prop} {Z : Prop} {w : World} (hgd : o.guard = none) (t : TypeId) (s x : Operand)
  (ho : o.op = .call { callee := .builtin .append, args := #[s, x], argTypes := #[t, t] }) (v1 v2 : Value) (hs : ac.eval s = v1) (hx : ac.eval x = v2) (r : Value) (w' : World)
  (hrun : (Builtin.append_ #[t, t] o.type #[v1, v2]).run Try.prog w = .ok r w') (h : K (ac.put o.dst r) w') : if Region.wanted o (yielded ops ac.tmps) = true then Oper.wp Try.prog o ac w K Q else Z := by
 have hw : Region.wanted o (yielded ops ac.tmps) = true := by simp [Region.wanted, hgd]
 rw [if_pos hw]
 exact wp_run_app t s x ho v1 v2 hs hx r w' hrun h
theorem run_copyI (w : World) (ty : TypeId) (a : Option Addr) (c : Nat) (X : List Int) (hr : RowI w a X) (hnil : a = none → c = 0) :
  ∃ a' c' w', (Builtin.append_ #[39, 39] ty #[.slice none 0 0, .slice a X.length c]).run Try.prog w = .ok (.slice a' X.length c') w' ∧ OwnsI w' w.heap.size (.slice a' X.length c') X ∧ (a' = none → c' = 0) ∧ Below w.heap.size w w' := by
 obtain ⟨i0, hi, hz0, hz1, hz2⟩ := info_parts info_int
 have hsm := hr.small
 cases a with
 | none =>
  have hl : X = [] := by
   cases X with
   | nil => rfl
   | cons y l => obtain ⟨b, off, hh, _⟩ := hr.cells (by simp); cases hh
  subst hl
  have := run_append_owned_none (P := Try.prog) (w := w) w.heap.size 39 ty 3 i0 1 Try.underlying39 hi (.slice none 0 0) 0 [] (World.ownsRow_nil _ _ _ _)
  rw [hnil rfl]
  exact ⟨none, 0, w, this, OwnsI.nil _ _, fun _ => rfl, Below.refl _ _⟩
 | some ad =>
  obtain ⟨v', w', h1, h2, h3, _⟩ := run_append_own (P := Try.prog) w w.heap.size 39 ty 3 i0 (.int .i64 0) 1 8 Try.underlying39 hi hz0 hz1 hz2 rfl (by decide) (.slice none 0 0) 0 [] (World.ownsRow_nil _ _ _ _) ad X.length c (X.map (Value.int .i64)) (by simp) (by
   intro j u hj
   have hjl : j < X.length := by
    have := (List.getElem?_eq_some_iff.1 hj).1
    simpa using this
   obtain ⟨b, off, hh, hc⟩ := hr.cells (by omega)
   cases hh
   rw [show (⟨b, off, none⟩ : Addr).add j = ⟨b, off + j, none⟩ from Go.WideShapes.add_plain .., hc j hjl, ← hj]
   simp [hjl]) (by
   intro u hu
   obtain ⟨x, _, rfl⟩ := List.mem_map.1 hu
   rfl) (by unfold maxLen; omega) (by omega) (Nat.le_refl _)
  rw [Nat.zero_add, List.nil_append] at h2
  obtain ⟨a', c', rfl, hn⟩ : ∃ a' c', v' = .slice a' X.length c' ∧ (a' = none → c' = 0) := by
   rcases h2.2 with ⟨h5, h6⟩ | ⟨g, cap, cur, h5, _⟩
   ·exact ⟨none, 0, by rw [h5, h6], fun _ => rfl⟩
   ·exact ⟨_, cap, h5, fun h => by cases h⟩
  exact ⟨a', c', w', h1, h2, hn, (Below.refl _ _).grown h3 (Nat.le_refl _) fun k hk => by cases hk⟩
theorem run_appB (w : World) (ty : TypeId) (B : Nat) (a0 : Option Addr) (c0 : Nat) (xs : List Int) (hown : Owns w B (.slice a0 xs.length c0) xs) (a : Option Addr) (c : Nat) (l : List Int) (hrow : Row w a l) (hnil : a = none → c = 0)
  (hsum : xs.length + l.length ≤ 140737488355328) (hbase : B ≤ w.heap.size) :
  ∃ a' c' w', (Builtin.append_ #[40, 40] ty #[.slice a0 xs.length c0, .slice a l.length c]).run Try.prog w = .ok (.slice a' (xs ++ l).length c') w' ∧ Owns w' B (.slice a' (xs ++ l).length c') (xs ++ l) ∧ (a' = none → c' = 0) ∧ Below B w w' := by
 obtain ⟨i0, hi, hz0, hz1, hz2⟩ := info_parts info_u8
 have form : ∀ {w'' : World} {v : Value}, Owns w'' B v (xs ++ l) → ∃ a' c', v = .slice a' (xs ++ l).length c' ∧ (a' = none → c' = 0) := fun {w'' v} h => by
  obtain ⟨a', c', h1, _, h2, _⟩ := h.form
  exact ⟨a', c', h1, h2⟩
 cases a with
 | none =>
  have hl : l = [] := by
   cases l with
   | nil => rfl
   | cons y l => obtain ⟨b, off, hh, _⟩ := hrow.cells (by simp); cases hh
  subst hl
  have h1 := run_append_owned_none (P := Try.prog) (w := w) B 40 ty 5 i0 1 Try.underlying40 hi (.slice a0 xs.length c0) xs.length (xs.map (Value.int .u8)) hown
  rw [hnil rfl]
  have ho : Owns w B (.slice a0 xs.length c0) (xs ++ []) := by simpa using hown
  obtain ⟨a', c', e, hn⟩ := form ho
  refine ⟨a', c', w, ?_, by rw [← e]; exact ho, hn, Below.refl _ _⟩
  rw [← e]
  exact h1
 | some ad =>
  obtain ⟨v', w', h1, h2, h3, _⟩ := run_append_own (P := Try.prog) w B 40 ty 5 i0 (.int .u8 0) 1 1 Try.underlying40 hi hz0 hz1 hz2 rfl (by decide) (.slice a0 xs.length c0) xs.length (xs.map (Value.int .u8)) hown ad l.length c (l.map (Value.int .u8)) (by simp) (by
   intro j u hj
   have hjl : j < l.length := by
    have := (List.getElem?_eq_some_iff.1 hj).1
    simpa using this
   obtain ⟨b, off, hh, hc⟩ := hrow.cells (by omega)
   cases hh
   rw [show (⟨b, off, none⟩ : Addr).add j = ⟨b, off + j, none⟩ from Go.WideShapes.add_plain .., hc j hjl, ← hj]
   simp [hjl]) oneCell_u8 (by unfold maxLen; omega) (by omega) hbase
  have ho : Owns w' B v' (xs ++ l) := by
   show w'.ownsRow B 5 1 v' (xs ++ l).length ((xs ++ l).map (Value.int .u8))
   rw [List.length_append, List.map_append]
   exact h2
  obtain ⟨a', c', rfl, hn⟩ := form ho
  exact ⟨a', c', w', h1, ho, hn, (Below.refl _ _).grown h3 hbase fun k hk => (World.ownsRow.lt hown k hk).1⟩
/-- The two appends of whole: a copy of what there is, and the part's bytes behind it. -/
theorem run_two (w : World) (ty : TypeId) (a : Option Addr) (c : Nat) (D : List Int) (hD : Row w a D) (hnil : a = none → c = 0) (hsum : D.length ≤ 65535) :
  ∃ a' c' w', (Builtin.append_ #[40, 40] ty #[.slice none 0 0, .slice a D.length c]).run Try.prog w = .ok (.slice a' D.length c') w' ∧ Owns w' w.heap.size (.slice a' D.length c') D ∧ Below w.heap.size w w' := by
 obtain ⟨a', c', w', h1, h2, _, h4⟩ := run_appB w ty w.heap.size none 0 [] (Owns.nil _ _) a c D hD hnil (by simp; omega) (Nat.le_refl _)
 rw [List.nil_append] at h1 h2
 exact ⟨a', c', w', h1, h2, h4⟩
/-- What out holds behind some parts. -/
structure OutP (w : World) (g4 : Nat) (C : List Pkt) (OA : Array Value) (da : Option Addr) (dc : Nat) : Prop where
 blk : Blk w g4 42 OA
 data : OA[14]? = some (.slice da (C.flatMap (·.dat)).length dc)
 row : Row w da (C.flatMap (·.dat))
 nil : da = none → dc = 0
 zero : C = [] → OA = z15 ∧ da = none
 head : C ≠ [] → ∃ xa xc, OA = pkV (packD C) xa xc da dc ∧ RowI w xa (packD C).X ∧ (xa = none → xc = 0) ∧ ∀ x, xa = some x → g4 < x.block
theorem info_pk (p : Pkt) (xa : Option Addr) (xc : Nat) (da : Option Addr) (dc : Nat) : (Try.prog.info? 42).map (·.size) = some (pkV p xa xc da dc).size := by kernel_rfl
theorem pk_all (p : Pkt) (xa : Option Addr) (xc : Nat) (da : Option Addr) (dc : Nat) : (pkV p xa xc da dc).all (·.oneCell') = true := by simp [Value.oneCell']
/-- How far the search in a datagram's parts has come. -/
def NextAt (ps : List PkIn) (a : Int) (m : Nat) (v : Int) : Prop := (v = -1 ∧ nextP ((ps.take m).map (·.p)) a = none) ∨ ∃ (j : Nat) (q : PkIn), v = j ∧ j < m ∧ ps[j]? = some q ∧ nextP ((ps.take m).map (·.p)) a = some q.p
theorem NextAt.step {ps : List PkIn} {a : Int} {m : Nat} {v : Int} (h : NextAt ps a m v) {q : PkIn} (hq : ps[m]? = some q) : NextAt ps a (m + 1) (if q.p.of = a then (m : Int) else v) := by
 unfold NextAt
 rw [next_take ps m q a hq]
 by_cases hx : q.p.of = a
 ·rw [if_pos hx, if_pos hx]
  exact .inr ⟨m, q, rfl, by omega, hq, rfl⟩
 ·rw [if_neg hx, if_neg hx]
  rcases h with h | ⟨j, q', h1, h2, h3, h4⟩
  ·exact .inl h
  ·exact .inr ⟨j, q', h1, by omega, h3, h4⟩
theorem packD_snoc {C : List Pkt} (h : C ≠ []) (q : Pkt) : packD (C ++ [q]) = { packD C with dat := (C ++ [q]).flatMap (·.dat) } := by
 cases C with
 | nil => exact absurd rfl h
 | cons p C => rfl
theorem packD_dat {C : List Pkt} (h : C ≠ []) : (packD C).dat = C.flatMap (·.dat) := by
 cases C with
 | nil => exact absurd rfl h
 | cons p C => rfl
theorem follow_step {n : Nat} {ps : List Pkt} {a : Int} {p : Pkt} (h : nextP ps a = some p) : follow (n + 1) ps a = if p.mo then (follow n ps p.en).map (p :: ·) else some [p] := by
 conv => lhs; unfold follow
 rw [h]
theorem follow_none {n : Nat} {ps : List Pkt} {a : Int} (h : nextP ps a = none) : follow (n + 1) ps a = none := by
 conv => lhs; unfold follow
 rw [h]
end Go.Proofs.Ytkeeidfpgfdldaa
