/- Texts joined: FwK -/
import Derived.Test.YtmjjdbkipagkbaaFyp5
import Derived.Test.YtmjjdbkipagkbaaFyp9
import Derived.DeepKeys4
import Derived.Maps.RangeWalk
namespace Go.Proofs.Ytmjjdbkipagkbaa
open Go.RowKit Go.Maps Go.WideMaps
set_option linter.unusedVariables false
set_option linter.unusedSimpArgs false
theorem laidFw : laidOutB Try.prog = true := by kernel_rfl
theorem rowWay : (26 : TypeId) < Try.prog.types.size := of_decide_eq_true (by kernel_rfl)
theorem wideWay : (match Try.prog.underlying 26 with | some (.array _ _) | some (.struct _) => true | _ => false) = true := by kernel_rfl
set_option maxRecDepth 100000 in
theorem lawWay : WideMaps.KeyLaw Try.prog 26 := deep_law_laid laidFw (m := 3) (by omega) rowWay (by kernel_rfl) wideWay
theorem keyWay : Keyed Try.prog 26 := Keyed.of_law lawWay
abbrev OwnsF (w : World) (b n : Nat) (D : DataW Value) : Prop := w.ownsMap Try.prog 26 heldElem b n D
theorem zero_flow (w : World) : (zeroValue 33).run Try.prog w = .ok (.agg fl0.v) w := by kernel_rfl
abbrev toDF (G : List (Lit × Fl)) : DataW Value := .map (G.map fun p => (p.1, .held (.agg p.2.v)))
theorem toDF_put (G : List (Lit × Fl)) (k : Lit) (g : Fl) : ((toDF G).put k (.held (.agg g.v)) : DataW Value) = toDF (ins (k, g) (strike k G)) := by
  show DataW.map (DataW.insert (k, (.held (.agg g.v) : DataW Value)) ((G.map fun p => (p.1, (.held (.agg p.2.v) : DataW Value))).filter fun p => !p.1.sameKey k)) = toDF _
  have h1 := ins_data (fun g : Fl => (.held (.agg g.v) : DataW Value)) (k, g) (strike k G)
  have h2 := strike_map (fun g : Fl => (.held (.agg g.v) : DataW Value)) k G
  unfold strike at h2
  rw [← h2]
  exact congrArg DataW.map h1.symm
theorem toDF_del (G : List (Lit × Fl)) (k : Lit) : (toDF G).del k = toDF (strike k G) := by
  show DataW.map ((G.map fun p => (p.1, (.held (.agg p.2.v) : DataW Value))).filter fun p => !p.1.sameKey k) = toDF _
  have h2 := strike_map (fun g : Fl => (.held (.agg g.v) : DataW Value)) k G
  exact congrArg DataW.map h2.symm
theorem toDF_size (G : List (Lit × Fl)) : Maps.size (toDF G) = G.length := by simp [Maps.size_eq]
theorem toDF_has (k : Lit) : ∀ (G : List (Lit × Fl)), Maps.has (toDF G) k = (look k G).isSome
  | [] => rfl
  | y :: r => by
    have ih := toDF_has k r
    unfold look at ih ⊢
    rw [Maps.has_eq] at ih ⊢
    simp only [List.map_cons, List.any_cons, List.find?_cons]
    cases h : y.1.sameKey k
    · simpa using ih
    · simp
theorem toDF_at (k : Lit) : ∀ (G : List (Lit × Fl)), (toDF G).atKey k (.held (.agg fl0.v)) = .held (.agg ((look k G).getD fl0).v)
  | [] => rfl
  | y :: r => by
    have ih := toDF_at k r
    unfold look at ih ⊢
    simp only [DataW.atKey] at ih ⊢
    simp only [List.map_cons, List.find?_cons]
    cases h : y.1.sameKey k
    · simpa using ih
    · simp
theorem ownF_tight {w : World} {b n : Nat} {G : List (Lit × Fl)} (h : OwnsF w b n (toDF G)) : OwnsF w b G.length (toDF G) := by
  obtain ⟨es, ck, h1, h2, h3, h4⟩ := h
  refine ⟨es, ck, h1, h2, ?_, h4⟩
  have h5 := congrArg Maps.size h4
  rw [toDF_size, Maps.size_eq, length_sorted] at h5
  simp at h5
  omega
/-- The key of a way. -/
def keyW (w : Wy) : Lit := .string (keyBytes [.int .i64 w.fam, .int .i64 w.pr, .int .i64 w.s.fam, .int .u64 w.s.hi, .int .u64 w.s.lo, .int .i64 w.d.fam, .int .u64 w.d.hi, .int .u64 w.d.lo, .int .i64 w.sp, .int .i64 w.dp])
theorem keyLit_way (w : Wy) : WideAt.IsKeyLit (keyW w) := by simp [WideAt.IsKeyLit, keyW]
theorem wf_i64_fw {x : Int} (h : -9223372036854775808 ≤ x ∧ x ≤ 9223372036854775807) : (Lit.int .i64 x).wf = true := by
  simp [Lit.wf, IntKind.min, IntKind.max, IntKind.signed, IntKind.bits]; omega
theorem wf_u64_fw {x : Int} (h : 0 ≤ x ∧ x ≤ 18446744073709551615) : (Lit.int .u64 x).wf = true := by
  simp [Lit.wf, IntKind.min, IntKind.max, IntKind.signed, IntKind.bits]; omega
theorem cellsTup : Try.prog.cellsOf 26 = 10 := by kernel_rfl
theorem cellsAdr : Try.prog.cellsOf 24 = 3 := by kernel_rfl
theorem cellsI64 : Try.prog.cellsOf 3 = 1 := by kernel_rfl
theorem cellsU64w : Try.prog.cellsOf 22 = 1 := by kernel_rfl
set_option maxRecDepth 100000 in
theorem lits_way (m : Nat) (f p sf sh sl df dh dl sp dp : Int) (h0 : (Lit.int .i64 f).wf = true) (h0' : (Lit.int .i64 p).wf = true) (h1 : (Lit.int .i64 sf).wf = true) (h2 : (Lit.int .u64 sh).wf = true) (h3 : (Lit.int .u64 sl).wf = true) (h4 : (Lit.int .i64 df).wf = true) (h5 : (Lit.int .u64 dh).wf = true) (h6 : (Lit.int .u64 dl).wf = true) (h7 : (Lit.int .i64 sp).wf = true) (h8 : (Lit.int .i64 dp).wf = true) :
    Try.prog.keyLits (m + 3) 26 [.int .i64 f, .int .i64 p, .int .i64 sf, .int .u64 sh, .int .u64 sl, .int .i64 df, .int .u64 dh, .int .u64 dl, .int .i64 sp, .int .i64 dp] = some [.int .i64 f, .int .i64 p, .int .i64 sf, .int .u64 sh, .int .u64 sl, .int .i64 df, .int .u64 dh, .int .u64 dl, .int .i64 sp, .int .i64 dp] := by
  simp [-Array.all_eq_true, -List.all_eq_true, List.all_cons, List.all_nil, Program.keyLits, Try.underlying26, Try.underlying24, Try.underlying3, Try.underlying22, cellsTup, cellsAdr, cellsI64, cellsU64w, h0, h0', h1, h2, h3, h4, h5, h6, h7, h8]
theorem key_way (w : Wy) (h : w.kf) : keyOf Try.prog 26 (.agg w.v) = some (keyW w) := by
  have hkt : Try.prog.keyType 26 = true := by kernel_rfl
  have hsz : ∃ m, Try.prog.types.size + 1 = m + 3 := ⟨Try.prog.types.size - 2, by have : 3 ≤ Try.prog.types.size := of_decide_eq_true (by kernel_rfl); omega⟩
  obtain ⟨m, hm⟩ := hsz
  unfold keyOf
  rw [Try.underlying26]
  simp only [hkt, hm, Value.cells, Bool.true_and]
  rw [if_pos (by simp [Value.formed, Try.underlying26, cellsTup]), lits_way m w.fam w.pr w.s.fam w.s.hi w.s.lo w.d.fam w.d.hi w.d.lo w.sp w.dp (wf_i64_fw h.fam) (wf_i64_fw h.pr) (wf_i64_fw h.ok.s.1) (wf_u64_fw h.ok.s.2.1) (wf_u64_fw h.ok.s.2.2) (wf_i64_fw h.ok.d.1) (wf_u64_fw h.ok.d.2.1) (wf_u64_fw h.ok.d.2.2) (wf_i64_fw h.sp) (wf_i64_fw h.dp)]
  rfl
theorem wv_inj {a b : Wy} (h : a.v = b.v) : a = b := by
  obtain ⟨f, pr, ⟨sf, sh, sl⟩, ⟨df, dh, dl⟩, sp, dp⟩ := a
  obtain ⟨f', pr', ⟨sf', sh', sl'⟩, ⟨df', dh', dl'⟩, sp', dp'⟩ := b
  simp at h
  simp [h]
theorem keyW_inj {a b : Wy} (ha : a.kf) (hb : b.kf) (h : keyW a = keyW b) : a = b := by
  have h1 := key_way a ha
  rw [h] at h1
  have h2 := keyWay.inj h1 (key_way b hb)
  exact wv_inj (Value.agg.inj h2)
/-- The map of flows. -/
structure MapF (w : World) (mb : Nat) (G : List (Lit × Fl)) : Prop where
  own : OwnsF w mb G.length (toDF G)
theorem MapF.lt {w : World} {mb : Nat} {G : List (Lit × Fl)} (h : MapF w mb G) : mb < w.heap.size := World.ownsMap.lt h.own
theorem MapF.al {w w' : World} {mb : Nat} {G : List (Lit × Fl)} {o : Obj} (h : MapF w mb G) (e : w.alloc o = w') : MapF w' mb G := ⟨by rw [← e]; exact World.ownsMap.alloc h.own _⟩
theorem MapF.drew {w : World} {mb : Nat} {G : List (Lit × Fl)} (h : MapF w mb G) : MapF w.drew mb G := ⟨World.ownsMap.drew h.own⟩
theorem MapF.but {F : Nat → Prop} {w w' : World} {mb : Nat} {G : List (Lit × Fl)} (h : MapF w mb G) (b : But F w w') (hn : ¬ F mb) : MapF w' mb G := by
  obtain ⟨es, ck, h1, h2, h3, h4⟩ := h.own
  exact ⟨⟨es, ck, (b.block mb h.lt hn).trans h1, h2, h3, h4⟩⟩
theorem MapF.kept {w w' : World} {mb : Nat} {G : List (Lit × Fl)} (h : MapF w mb G) (b : Below w.heap.size w w') : MapF w' mb G := h.but (But.of_below b (fun _ => False)) (fun x => x)
theorem MapF.other {w : World} {mb g : Nat} {G : List (Lit × Fl)} (h : MapF w mb G) (hn : mb ≠ g) (cs : Array Value) : MapF (w.setRow g cs) mb G :=
  h.but ((But.refl (fun k => k = g) w).setRow g (.inl rfl) cs) hn
theorem MapF.put_other {w : World} {mb g : Nat} {G : List (Lit × Fl)} {t : TypeId} {cs : Array Value} (h : MapF w mb G) (_ : Blk w g t cs) (hn : mb ≠ g) (i : Nat) (v : Value) : MapF (w.setCell ⟨g, i, none⟩ v) mb G :=
  h.but ((But.refl (fun k => k = g) w).setCell g i (.inl rfl) v) hn
set_option maxRecDepth 100000 in
theorem look_F {w : World} {mb : Nat} {G : List (Lit × Fl)} (h : MapF w mb G) {q : Wy} (hq : q.kf) :
    (Instr.lookup 75 (.map (some mb)) (.agg q.v) true).run Try.prog w = .ok (.tuple #[.agg ((look (keyW q) G).getD fl0).v, .bool (look (keyW q) G).isSome]) w := by
  obtain ⟨v, ps, h1, h2⟩ := World.ownsMap.look_ok h.own keyWay Try.underlying75 (zero_flow w) (zd := .held (.agg fl0.v)) (zp := []) rfl (key_way q hq)
  simp only [heldElem, Option.some.injEq, Prod.mk.injEq] at h2
  rw [h1, toDF_has]
  have h3 := h2.1.symm
  rw [toDF_at] at h3
  injection h3 with h3
  rw [h3]
theorem len_F {w : World} {mb : Nat} {G : List (Lit × Fl)} (h : MapF w mb G) (ty : TypeId) : (Builtin.len_ #[75] ty #[.map (some mb)]).run Try.prog w = .ok (.int .i64 (G.length : Int)) w := by
  have h1 := World.ownsMap.len h.own Try.underlying75 ty
  rw [toDF_size] at h1
  exact h1
theorem step_deleteF {ops : Array Oper} {o : Oper} {ac : Act} {K : Act → World → Prop} {Q : Exit → Act → World → Prop} {Z : Prop} {w : World} (hgd : o.guard = none) (m x : Operand) (ho : o.op = Op.call { callee := Callee.builtin Builtin.delete, args := #[m, x], argTypes := #[75, 26] })
    (b : Nat) (G : List (Lit × Fl)) (q : Wy) (hm : ac.eval m = .map (some b)) (hx : ac.eval x = .agg q.v) (hS : MapF w b G) (hk : q.kf)
    (h : ∀ w', MapF w' b (strike (keyW q) G) → w.mapTurned w' b → K (ac.put o.dst (.tuple #[])) w') :
    if Region.wanted o (yielded ops ac.tmps) = true then Oper.wp Try.prog o ac w K Q else Z := by
  have hw : Region.wanted o (yielded ops ac.tmps) = true := by simp [Region.wanted, hgd]
  rw [if_pos hw]
  obtain ⟨w', h1, h2, h3⟩ := World.ownsMap.drop hS.own keyWay Try.underlying75 (key_way q hk) o.type
  unfold Oper.wp execOp
  simp only [ho, resolve, invoke, builtin, Sem.run_bind, Sem.run_pure, Result.andThen_ok, List.map_toArray, List.map_cons, List.map_nil, hm, hx, h1]
  rw [toDF_del] at h2
  exact h w' ⟨ownF_tight h2⟩ h3
theorem step_updateF {ops : Array Oper} {o : Oper} {ac : Act} {K : Act → World → Prop} {Q : Exit → Act → World → Prop} {Z : Prop} {w : World} (hgd : o.guard = none) (m x y : Operand) (ho : o.op = Op.mapUpdate 75 m x y)
    (b : Nat) (G : List (Lit × Fl)) (q : Wy) (f : Fl) (hm : ac.eval m = .map (some b)) (hx : ac.eval x = .agg q.v) (hy : ac.eval y = .agg f.v) (hS : MapF w b G) (hn : G.length < maxLen) (hk : q.kf)
    (h : ∀ w', MapF w' b (ins (keyW q, f) (strike (keyW q) G)) → w.mapTurned w' b → K (ac.put o.dst undef) w') :
    if Region.wanted o (yielded ops ac.tmps) = true then Oper.wp Try.prog o ac w K Q else Z := by
  have hw : Region.wanted o (yielded ops ac.tmps) = true := by simp [Region.wanted, hgd]
  rw [if_pos hw]
  obtain ⟨w', h1, h2, h3⟩ := World.ownsMap.store hS.own keyWay Try.underlying75 (val := .agg f.v) hn (key_way q hk) (d := .held (.agg f.v)) (ps := []) rfl
  unfold Oper.wp execOp
  simp only [ho, Sem.run_bind, Sem.run_pure, Result.andThen_ok, hm, hx, hy, h1]
  rw [toDF_put] at h2
  exact h w' ⟨ownF_tight h2⟩ h3
/-! A table in memory. -/
abbrev tabV (s : Ft) (mb : Nat) : Array Value := #[.bool true, .int .i64 s.most, .int .i64 s.now, .map (some mb)]
structure TabF (w : World) (tb mb : Nat) (s : Ft) (G : List (Lit × Fl)) : Prop where
  tab : Blk w tb 77 (tabV s mb)
  map : MapF w mb G
  ne : tb ≠ mb
  ok : FtOk s
  keys : Keys G
  key : ∀ p ∈ G, p.1 = keyW p.2.w
  perm : (G.map (·.2)).Perm s.L
theorem TabF.but {F : Nat → Prop} {w w' : World} {tb mb : Nat} {s : Ft} {G : List (Lit × Fl)} (h : TabF w tb mb s G) (b : But F w w') (h1 : ¬ F tb) (h2 : ¬ F mb) : TabF w' tb mb s G := ⟨h.tab.but b h1, h.map.but b h2, h.ne, h.ok, h.keys, h.key, h.perm⟩
theorem TabF.kept {w w' : World} {tb mb : Nat} {s : Ft} {G : List (Lit × Fl)} (h : TabF w tb mb s G) (b : Below w.heap.size w w') : TabF w' tb mb s G := h.but (But.of_below b (fun _ => False)) (fun x => x) (fun x => x)
theorem TabF.kf {w : World} {tb mb : Nat} {s : Ft} {G : List (Lit × Fl)} (h : TabF w tb mb s G) {p : Lit × Fl} (hp : p ∈ G) : p.2.w.kf := (h.ok.each p.2 (h.perm.mem_iff.1 (List.mem_map.2 ⟨p, hp, rfl⟩))).2.2
theorem TabF.len {w : World} {tb mb : Nat} {s : Ft} {G : List (Lit × Fl)} (h : TabF w tb mb s G) : G.length = s.L.length := by
  have := h.perm.length_eq
  simpa using this
theorem TabF.look {w : World} {tb mb : Nat} {s : Ft} {G : List (Lit × Fl)} (h : TabF w tb mb s G) {q : Wy} (hq : q.kf) : Go.Proofs.Ytmjjdbkipagkbaa.look (keyW q) G = atF q s.L := by
  cases hl : Go.Proofs.Ytmjjdbkipagkbaa.look (keyW q) G with
  | some f =>
    have hm := look_mem hl
    have e := keyW_inj hq (h.kf hm) (h.key _ hm)
    exact (atF_mem h.ok.sorted (h.perm.mem_iff.1 (List.mem_map.2 ⟨_, hm, rfl⟩)) e.symm).symm
  | none =>
    refine (atF_none.2 fun f hf e => ?_).symm
    obtain ⟨p, hp, rfl⟩ := List.mem_map.1 (h.perm.mem_iff.2 hf)
    have := look_iff (keyLit_way q) h.keys (x := p.2) (by rw [← e, ← h.key p hp]; exact hp)
    rw [hl] at this
    cases this
theorem strike_snd {w : World} {tb mb : Nat} {s : Ft} {G : List (Lit × Fl)} (h : TabF w tb mb s G) {q : Wy} (hq : q.kf) : ((strike (keyW q) G).map (·.2)).Perm (delF q s.L) := by
  have e : (strike (keyW q) G).map (·.2) = (G.map (·.2)).filter (fun g => !g.w.eqB q) := by
    unfold strike
    rw [List.filter_map]
    congr 1
    refine List.filter_congr fun p hp => ?_
    simp only [Function.comp]
    congr 1
    rw [h.key p hp]
    cases he : p.2.w.eqB q with
    | true => rw [(Wy.eqB_iff _ _).1 he]; exact same_self' (keyLit_way q)
    | false =>
      cases hs : (keyW p.2.w).sameKey (keyW q) with
      | false => rfl
      | true =>
        have := keyW_inj (h.kf hp) hq (same_eq hs)
        exact absurd this (eqB_false.1 he)
  rw [e]
  exact h.perm.filter _
theorem strike_keys {G : List (Lit × Fl)} (h : Keys G) (k : Lit) : Keys (strike k G) := h.filter _
theorem TabF.dropped {w w' : World} {tb mb : Nat} {s : Ft} {G : List (Lit × Fl)} (h : TabF w tb mb s G) {q : Wy} (hq : q.kf) (ht : Blk w' tb 77 (tabV s mb)) (hm : MapF w' mb (strike (keyW q) G)) : TabF w' tb mb { s with L := delF q s.L } (strike (keyW q) G) :=
  ⟨ht, hm, h.ne, h.ok.filter _ s.now h.ok.now (fun f hf _ => (h.ok.each f hf).2.1), strike_keys h.keys _, fun p hp => h.key p (mem_strike hp), strike_snd h hq⟩
theorem TabF.laid {w w' : World} {tb mb : Nat} {s s' : Ft} {G : List (Lit × Fl)} (h : TabF w tb mb s G) {f : Fl} (hq : f.w.kf) (hs : FtOk s') (hL : s'.L.Perm (f :: delF f.w s.L)) (ht : Blk w' tb 77 (tabV s' mb)) (hm : MapF w' mb (ins (keyW f.w, f) (strike (keyW f.w) G))) : TabF w' tb mb s' (ins (keyW f.w, f) (strike (keyW f.w) G)) := by
  have hp := ins_perm (keyW f.w, f) (strike (keyW f.w) G)
  refine ⟨ht, hm, h.ne, hs, keys_ins (keyLit_way f.w) f h.keys, fun p hp' => ?_, ?_⟩
  · rcases List.mem_cons.1 (hp.mem_iff.1 hp') with rfl | hx
    · rfl
    · exact h.key p (mem_strike hx)
  · refine ((hp.map (·.2)).trans ?_).trans hL.symm
    exact (strike_snd h hq).cons f
theorem del_none {q : Wy} {L : List Fl} (h : atF q L = none) : delF q L = L := by
  unfold delF
  exact List.filter_eq_self.2 fun g hg => by
    have := atF_none.1 h g hg
    rw [eqB_false.2 this]
    rfl
theorem sort_eq : ∀ {L M : List Fl}, L.Perm M → SortF L → SortF M → L = M
  | [], M, h, _, _ => by simpa using h.symm
  | x :: L, [], h, _, _ => by simp at h
  | x :: L, y :: M, h, hl, hm => by
    obtain ⟨l1, l2⟩ := List.pairwise_cons.1 hl
    obtain ⟨m1, m2⟩ := List.pairwise_cons.1 hm
    have e : x = y := by
      have hx : x ∈ y :: M := h.mem_iff.1 (by simp)
      have hy : y ∈ x :: L := h.mem_iff.2 (by simp)
      rcases List.mem_cons.1 hx with e | hx
      · exact e
      · rcases List.mem_cons.1 hy with e | hy
        · exact e.symm
        · have a := l1 y hy
          have b := m1 x hx
          have := order_lt_tr a b
          rw [order_self] at this
          omega
    subst e
    rw [sort_eq (List.perm_cons x |>.1 h) l2 m2]
end Go.Proofs.Ytmjjdbkipagkbaa
